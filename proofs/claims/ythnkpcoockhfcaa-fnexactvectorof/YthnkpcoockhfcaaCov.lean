/-
  Contracts of Covers, of the model and of the program.
-/
import Derived.Test.YthnkpcoockhfcaaVecOf
namespace Go.Proofs.Ythnkpcoockhfcaa
open Go.ChangeShapes Go.WideShapes Go.ChangeAt Go.RowKit

theorem idx0 (a b c d e : Int) (w : World) : Sem.run Try.prog (Instr.index 65 (.agg #[.int .i64 a, .int .i64 b, .int .i64 c, .int .i64 d, .int .i64 e]) (.int .i64 0)) w = .ok (.int .i64 a) w := by kernel_rfl
theorem idx1 (a b c d e : Int) (w : World) : Sem.run Try.prog (Instr.index 65 (.agg #[.int .i64 a, .int .i64 b, .int .i64 c, .int .i64 d, .int .i64 e]) (.int .i64 1)) w = .ok (.int .i64 b) w := by kernel_rfl
theorem idx2 (a b c d e : Int) (w : World) : Sem.run Try.prog (Instr.index 65 (.agg #[.int .i64 a, .int .i64 b, .int .i64 c, .int .i64 d, .int .i64 e]) (.int .i64 2)) w = .ok (.int .i64 c) w := by kernel_rfl
theorem idx3 (a b c d e : Int) (w : World) : Sem.run Try.prog (Instr.index 65 (.agg #[.int .i64 a, .int .i64 b, .int .i64 c, .int .i64 d, .int .i64 e]) (.int .i64 3)) w = .ok (.int .i64 d) w := by kernel_rfl
theorem idx4 (a b c d e : Int) (w : World) : Sem.run Try.prog (Instr.index 65 (.agg #[.int .i64 a, .int .i64 b, .int .i64 c, .int .i64 d, .int .i64 e]) (.int .i64 4)) w = .ok (.int .i64 e) w := by kernel_rfl

/-- What Covers answers. -/
def covP (a b : List (Int × Int)) : Bool := M1.vecOk a && M1.vecOk b && M1.covB a b

set_option maxHeartbeats 2000000 in
theorem covers_spec (av bv : Option Addr) (n cn m cm : Nat) (xs ys : List (Int × Int)) (w : World) (h1 : IsVec w av n cn xs) (h2 : IsVec w bv m cm ys) :
    Calls Try.prog 16 #[.slice av n cn, .slice bv m cm] w fun e w' => e = .returned (.bool (covP xs ys)) ∧ Below w.heap.size w w' := by
  have hl2 : Hid (ys.length = m) := h2.hlen
  have hm1 := h1.hcap
  have hm2 := h1.hmost
  have hm3 := h2.hcap
  have hm4 := h2.hmost
  unfold maxLen at hm2 hm4
  by_cases hv : M1.vecOk xs = true
  · have HV : Hid (M1.vecOk xs = true) := hv
    by_cases hu : M1.vecOk ys = true
    · have HU : Hid (M1.vecOk ys = true) := hu
      have e1 : covP xs ys = M1.covB xs ys := by simp [covP, hv, hu]
      rw [e1]; clear e1 hv hu
      go_enter Try.func16, Try.ntmps16
      go_wp2_with fail
      refine (vecOk_spec _ _ _ _ _ h1).mono ?_
      rw [HV.out]
      rintro e w1 ⟨rfl, hb1⟩
      go_wp2_with fail
      refine (vecOk_spec _ _ _ _ _ (h2.below hb1)).mono ?_
      rw [HU.out]
      rintro e w2 ⟨rfl, hb2⟩
      have hB2 := hb1.trans (hb2.mono hb1.size)
      go_wp2_with fail
      go_loopw [5] (fun i wr => ∃ k : Nat, k ≤ m ∧ i = .int .i64 k ∧ Below w.heap.size w wr ∧ Hid (∀ j, j < k → M1.nm ys j ≤ M1.lk xs (M1.rg ys j))) (fun i _ => m - (intOf i).toNat)
      case atStart => exact ⟨0, Nat.zero_le _, rfl, hB2, fun j hj => absurd hj (Nat.not_lt_zero _)⟩
      case round =>
        clear hB2 hb1 hb2
        obtain ⟨k, hk, rfl, hB, hall⟩ := hrel
        by_cases hlt : k < m
        · have g1 := h1.below hB
          have g2 := h2.below hB
          rcases g2.hlies with h0 | ⟨b, off, rfl, hb, hc⟩
          · omega
          obtain ⟨c1, c2⟩ := hc k hlt
          have i0 : (0 : Int) ≤ (k : Int) := by omega
          have i1 : (k : Int) < (m : Int) := by omega
          by_cases hq : M1.lk xs (M1.rg ys k) < M1.nm ys k
          · have HQ : Hid (M1.covB xs ys = false) := M1.cov_no (j := k) (by have := hl2.out; omega) hq
            clear hall g2 hc
            go_wp2_with fail
            go_region_held3 (fun w' => Kp wr w' ∧ IsVec w' av n cn xs)
              (first | exact ⟨kp_zero _, g1.below (Below.refl _ _).drew⟩ | assumption)
              (first
                | (go_at_call 49; refine (l1Of_any _ _ _ _ _ _ (And.right (a := Kp wr _) (by assumption)) HV.out).mono ?_; rintro e w' ⟨rfl, rfl⟩))
            rename_i hK
            have hB' := hB.trans (hK.1.1.mono hB.size)
            go_wp2_with fail
            go_ret
            exact ⟨by rw [HQ.out]; rfl, hB'⟩
          · have HQ : Hid (∀ j, j < k + 1 → M1.nm ys j ≤ M1.lk xs (M1.rg ys j)) := fun j hj => by
              by_cases e : j = k
              · rw [e]; omega
              · exact hall.out j (by omega)
            clear hall g2 hc
            go_wp2_with fail
            go_region_held3 (fun w' => Kp wr w' ∧ IsVec w' av n cn xs)
              (first | exact ⟨kp_zero _, g1.below (Below.refl _ _).drew⟩ | assumption)
              (first
                | (go_at_call 49; refine (l1Of_any _ _ _ _ _ _ (And.right (a := Kp wr _) (by assumption)) HV.out).mono ?_; rintro e w' ⟨rfl, rfl⟩))
            rename_i hK
            have hB' := hB.trans (hK.1.1.mono hB.size)
            go_wp2_with fail
            exact ⟨⟨k + 1, by omega, by go_num, hB', HQ⟩, by simp [intOf]; omega⟩
        · have HQ : Hid (M1.covB xs ys = true) := M1.cov_yes (fun j hj => hall.out j (by have := hl2.out; omega))
          clear hall
          go_wp2_with fail
          go_ret
          exact ⟨by rw [HQ.out]; rfl, hB⟩
    · have HU : Hid (M1.vecOk ys = false) := (by simpa using hu : M1.vecOk ys = false)
      have e1 : covP xs ys = false := by simp [covP, hu]
      rw [e1]; clear e1 hv hu
      go_enter Try.func16, Try.ntmps16
      go_wp2_with fail
      refine (vecOk_spec _ _ _ _ _ h1).mono ?_
      rw [HV.out]
      rintro e w1 ⟨rfl, hb1⟩
      go_wp2_with fail
      refine (vecOk_spec _ _ _ _ _ (h2.below hb1)).mono ?_
      rw [HU.out]
      rintro e w2 ⟨rfl, hb2⟩
      have hB2 := hb1.trans (hb2.mono hb1.size)
      go_wp2_with fail
      go_ret
      exact ⟨rfl, hB2⟩
  · have HV : Hid (M1.vecOk xs = false) := (by simpa using hv : M1.vecOk xs = false)
    have e1 : covP xs ys = false := by simp [covP, hv]
    rw [e1]; clear e1 hv
    go_enter Try.func16, Try.ntmps16
    go_wp2_with fail
    refine (vecOk_spec _ _ _ _ _ h1).mono ?_
    rw [HV.out]
    rintro e w1 ⟨rfl, hb1⟩
    go_wp2_with fail
    go_ret
    exact ⟨rfl, hb1⟩

set_option maxHeartbeats 4000000 in
theorem covers_impl (av bv : Option Addr) (n cn m cm : Nat) (xs ys : List (Int × Int)) (w : World) (h1 : IsVec w av n cn xs) (h2 : IsVec w bv m cm ys) :
    Calls Try.prog 15 #[.slice av n cn, .slice bv m cm] w fun e w' => e = .returned (.bool (covP xs ys)) ∧ Below w.heap.size w w' := by
  by_cases hv : M1.vecOk xs = true
  · have HV : Hid (M1.vecOk xs = true) := hv
    by_cases hu : M1.vecOk ys = true
    · have HU : Hid (M1.vecOk ys = true) := hu
      have e1 : covP xs ys = M1.covB xs ys := by simp [covP, hv, hu]
      have HC : Hid (M1.covB xs ys = true ↔ ∀ r : Int, 1 ≤ r → r ≤ 5 → M1.lk ys r ≤ M1.lk xs r) := M1.cov_iff hv hu
      rw [e1]; clear e1 hv hu
      go_enter Try.func15, Try.ntmps15
      go_wp2_with fail
      refine (vectorFrom_yes _ _ _ _ _ h1 HV.out).mono ?_
      rintro e w1 ⟨rfl, hb1⟩
      have hB1 := hb1
      clear hb1
      obtain ⟨hc1, hf1⟩ := bcell hB1
      have hz1 := hB1.size
      (try simp [Nat.succ_le_iff] at hz1)
      go_wp2_with fail
      refine (vectorFrom_yes _ _ _ _ _ (h2.below (hB1.alloc hB1.size _)) HU.out).mono ?_
      rintro e w2 ⟨rfl, hb2⟩
      have hB2 := hb2
      clear hb2
      obtain ⟨hc2, hf2⟩ := bcell hB2
      have hz2 := hB2.size
      (try simp [Nat.succ_le_iff] at hz2)
      have hz : w1.heap.size < w2.heap.size := by omega
      go_wp2_with fail
      go_loop [9, 10, 28] (fun _ _ i => ∃ k : Int, 0 ≤ k ∧ k ≤ 5 ∧ i = .int .i64 k ∧ Hid (∀ r : Int, 1 ≤ r → r ≤ k → M1.lk ys r ≤ M1.lk xs r)) (fun _ _ i => 5 - (intOf i).toNat)
      case atStart => exact ⟨0, by omega, by omega, rfl, fun r h3 h4 => by omega⟩
      case round =>
        obtain ⟨k, hk0, hk, rfl, hall⟩ := hrel
        have x0 := @idx0
        have x1 := @idx1
        have x2 := @idx2
        have x3 := @idx3
        have x4 := @idx4
        by_cases hlt : k < 5
        · by_cases hq : M1.lk xs (k + 1) < M1.lk ys (k + 1)
          · have HQ : Hid (M1.covB xs ys = false) := by
              have : ¬ M1.covB xs ys = true := fun h => by have := HC.out.1 h (k + 1) (by omega) (by omega); omega
              exact (by simpa using this : M1.covB xs ys = false)
            clear hall
            obtain rfl | rfl | rfl | rfl | rfl : k = 0 ∨ k = 1 ∨ k = 2 ∨ k = 3 ∨ k = 4 := by omega
            all_goals
              simp at hq
              go_wp2
              go_ret
              refine ⟨by rw [HQ.out]; rfl, ?_⟩
              repeat (first | (with_reducible exact Below.refl _ _) | ((with_reducible refine Below.setCell ?_ ?_ _); rotate_left; (focus (first | omega | (simp; done) | (simp; omega)))) | ((with_reducible refine Below.alloc ?_ ?_ _); rotate_left; (focus (first | omega | (simp; done) | (simp; omega)))) | (with_reducible refine Below.drew ?_) | ((with_reducible refine Below.trans ?_ (Below.mono hB2 ?_)); rotate_left; (focus (first | omega | (simp; done) | (simp; omega)))) | ((with_reducible refine Below.trans ?_ (Below.mono hB1 ?_)); rotate_left; (focus (first | omega | (simp; done) | (simp; omega)))))
          · have HQ : Hid (∀ r : Int, 1 ≤ r → r ≤ k + 1 → M1.lk ys r ≤ M1.lk xs r) := fun r h3 h4 => by
              by_cases e : r = k + 1
              · rw [e]; omega
              · exact hall.out r h3 (by omega)
            clear hall
            obtain rfl | rfl | rfl | rfl | rfl : k = 0 ∨ k = 1 ∨ k = 2 ∨ k = 3 ∨ k = 4 := by omega
            all_goals
              simp at hq
              go_wp2
              go_round
              case rel => exact ⟨_, by omega, by omega, rfl, HQ⟩
              case measure => simp [intOf]
        · have HQ : Hid (M1.covB xs ys = true) := HC.out.2 fun r h3 h4 => hall.out r h3 (by omega)
          clear hall
          go_wp2
          go_ret
          refine ⟨by rw [HQ.out]; rfl, ?_⟩
          repeat (first | (with_reducible exact Below.refl _ _) | ((with_reducible refine Below.setCell ?_ ?_ _); rotate_left; (focus (first | omega | (simp; done) | (simp; omega)))) | ((with_reducible refine Below.alloc ?_ ?_ _); rotate_left; (focus (first | omega | (simp; done) | (simp; omega)))) | (with_reducible refine Below.drew ?_) | ((with_reducible refine Below.trans ?_ (Below.mono hB2 ?_)); rotate_left; (focus (first | omega | (simp; done) | (simp; omega)))) | ((with_reducible refine Below.trans ?_ (Below.mono hB1 ?_)); rotate_left; (focus (first | omega | (simp; done) | (simp; omega)))))
    · have HU : Hid (M1.vecOk ys = false) := (by simpa using hu : M1.vecOk ys = false)
      have e1 : covP xs ys = false := by simp [covP, hu]
      rw [e1]; clear e1 hv hu
      go_enter Try.func15, Try.ntmps15
      go_wp2_with fail
      refine (vectorFrom_yes _ _ _ _ _ h1 HV.out).mono ?_
      rintro e w1 ⟨rfl, hb1⟩
      have hB1 := hb1
      clear hb1
      obtain ⟨hc1, hf1⟩ := bcell hB1
      have hz1 := hB1.size
      (try simp [Nat.succ_le_iff] at hz1)
      go_wp2_with fail
      refine (vectorFrom_no _ _ _ _ _ (h2.below (hB1.alloc hB1.size _)) HU.out).mono ?_
      rintro e w2 ⟨rfl, hb2⟩
      have hB2 := hb2
      clear hb2
      obtain ⟨hc2, hf2⟩ := bcell hB2
      have hz2 := hB2.size
      (try simp [Nat.succ_le_iff] at hz2)
      go_wp2_with fail
      go_ret
      refine ⟨rfl, ?_⟩
      repeat (first | (with_reducible exact Below.refl _ _) | ((with_reducible refine Below.setCell ?_ ?_ _); rotate_left; (focus (first | omega | (simp; done) | (simp; omega)))) | ((with_reducible refine Below.alloc ?_ ?_ _); rotate_left; (focus (first | omega | (simp; done) | (simp; omega)))) | (with_reducible refine Below.drew ?_) | ((with_reducible refine Below.trans ?_ (Below.mono hB2 ?_)); rotate_left; (focus (first | omega | (simp; done) | (simp; omega)))) | ((with_reducible refine Below.trans ?_ (Below.mono hB1 ?_)); rotate_left; (focus (first | omega | (simp; done) | (simp; omega)))))
  · have HV : Hid (M1.vecOk xs = false) := (by simpa using hv : M1.vecOk xs = false)
    have e1 : covP xs ys = false := by simp [covP, hv]
    rw [e1]; clear e1 hv
    by_cases hu : M1.vecOk ys = true
    · have HU : Hid (M1.vecOk ys = true) := hu
      clear hu
      go_enter Try.func15, Try.ntmps15
      go_wp2_with fail
      refine (vectorFrom_no _ _ _ _ _ h1 HV.out).mono ?_
      rintro e w1 ⟨rfl, hb1⟩
      have hB1 := hb1
      clear hb1
      obtain ⟨hc1, hf1⟩ := bcell hB1
      have hz1 := hB1.size
      (try simp [Nat.succ_le_iff] at hz1)
      go_wp2_with fail
      refine (vectorFrom_yes _ _ _ _ _ (h2.below (hB1.alloc hB1.size _)) HU.out).mono ?_
      rintro e w2 ⟨rfl, hb2⟩
      have hB2 := hb2
      clear hb2
      obtain ⟨hc2, hf2⟩ := bcell hB2
      have hz2 := hB2.size
      (try simp [Nat.succ_le_iff] at hz2)
      go_wp2_with fail
      go_ret
      refine ⟨rfl, ?_⟩
      repeat (first | (with_reducible exact Below.refl _ _) | ((with_reducible refine Below.setCell ?_ ?_ _); rotate_left; (focus (first | omega | (simp; done) | (simp; omega)))) | ((with_reducible refine Below.alloc ?_ ?_ _); rotate_left; (focus (first | omega | (simp; done) | (simp; omega)))) | (with_reducible refine Below.drew ?_) | ((with_reducible refine Below.trans ?_ (Below.mono hB2 ?_)); rotate_left; (focus (first | omega | (simp; done) | (simp; omega)))) | ((with_reducible refine Below.trans ?_ (Below.mono hB1 ?_)); rotate_left; (focus (first | omega | (simp; done) | (simp; omega)))))
    · have HU : Hid (M1.vecOk ys = false) := (by simpa using hu : M1.vecOk ys = false)
      clear hu
      go_enter Try.func15, Try.ntmps15
      go_wp2_with fail
      refine (vectorFrom_no _ _ _ _ _ h1 HV.out).mono ?_
      rintro e w1 ⟨rfl, hb1⟩
      have hB1 := hb1
      clear hb1
      obtain ⟨hc1, hf1⟩ := bcell hB1
      have hz1 := hB1.size
      (try simp [Nat.succ_le_iff] at hz1)
      go_wp2_with fail
      refine (vectorFrom_no _ _ _ _ _ (h2.below (hB1.alloc hB1.size _)) HU.out).mono ?_
      rintro e w2 ⟨rfl, hb2⟩
      have hB2 := hb2
      clear hb2
      obtain ⟨hc2, hf2⟩ := bcell hB2
      have hz2 := hB2.size
      (try simp [Nat.succ_le_iff] at hz2)
      go_wp2_with fail
      go_ret
      refine ⟨rfl, ?_⟩
      repeat (first | (with_reducible exact Below.refl _ _) | ((with_reducible refine Below.setCell ?_ ?_ _); rotate_left; (focus (first | omega | (simp; done) | (simp; omega)))) | ((with_reducible refine Below.alloc ?_ ?_ _); rotate_left; (focus (first | omega | (simp; done) | (simp; omega)))) | (with_reducible refine Below.drew ?_) | ((with_reducible refine Below.trans ?_ (Below.mono hB2 ?_)); rotate_left; (focus (first | omega | (simp; done) | (simp; omega)))) | ((with_reducible refine Below.trans ?_ (Below.mono hB1 ?_)); rotate_left; (focus (first | omega | (simp; done) | (simp; omega)))))
end Go.Proofs.Ythnkpcoockhfcaa
