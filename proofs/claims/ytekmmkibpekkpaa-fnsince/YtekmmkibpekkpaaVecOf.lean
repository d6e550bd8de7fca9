/-
  Contracts of l1Of and of VecOf, of the model and of the program.
-/
import Derived.Test.YtekmmkibpekkpaaVecOkSpec
import Derived.Test.YtekmmkibpekkpaaVecFrom
namespace Go.Proofs.Ytekmmkibpekkpaa
open Go.ChangeShapes Go.WideShapes Go.ChangeAt Go.RowKit

set_option maxHeartbeats 1000000 in
theorem l1Of_any (av : Option Addr) (n cn : Nat) (ds : List (Int × Int)) (r : Int) (w : World) (h1 : IsVec w av n cn ds) (hv : M1.vecOk ds = true) :
    Calls Try.prog 76 #[.slice av n cn, .int .i64 r] w fun e w' => e = .returned (.int .i64 (M1.lk ds r)) ∧ w' = w := by
  have hl1 : Hid (ds.length = n) := h1.hlen
  have HV : Hid (M1.vecOk ds = true) := hv
  clear hv
  have hm1 := h1.hcap
  have hm2 := h1.hmost
  unfold maxLen at hm2
  go_enter Try.func76, Try.ntmps76
  go_wp2
  go_loop [5] (fun i => ∃ k : Nat, k ≤ n ∧ i = .int .i64 k ∧ Hid (∀ j, j < k → ¬ M1.rg ds j = r)) (fun i => n - (intOf i).toNat)
  case atStart => exact ⟨0, Nat.zero_le _, rfl, fun j hj => absurd hj (Nat.not_lt_zero _)⟩
  case round =>
    obtain ⟨k, hk, rfl, hall⟩ := hrel
    by_cases hlt : k < n
    · rcases h1.hlies with h0 | ⟨b, off, rfl, hb, hc⟩
      · omega
      obtain ⟨c1, c2⟩ := hc k hlt
      clear hc
      have i0 : (0 : Int) ≤ (k : Int) := by omega
      have i1 : (k : Int) < (n : Int) := by omega
      by_cases hq : M1.rg ds k = r
      · have HQ : Hid (M1.lk ds r = M1.nm ds k) := (by rw [← hq]; exact M1.lk_at HV.out (by have := hl1.out; omega) : M1.lk ds r = M1.nm ds k)
        have hq1 : (M1.rg ds k == r) = true := by simp [hq]
        clear hq hall
        go_wp2
        go_ret
        exact ⟨by rw [HQ.out]; rfl, rfl⟩
      · have HQ : Hid (∀ j, j < k + 1 → ¬ M1.rg ds j = r) := fun j hj => by
          by_cases e : j = k
          · rw [e]; exact hq
          · exact hall.out j (by omega)
        have hq1 : (M1.rg ds k == r) = false := by simp [hq]
        clear hq hall
        go_wp2
        go_round
        case rel => exact ⟨k + 1, by omega, by go_num, HQ⟩
        case measure => simp [intOf]; omega
    · have HQ : Hid (M1.lk ds r = 0) := M1.lk_none fun j hj => hall.out j (by have := hl1.out; omega)
      clear hall
      go_wp2
      go_ret
      exact ⟨by rw [HQ.out]; rfl, rfl⟩

/-- What VecOf answers. -/
def ofP (ds : List (Int × Int)) (r : Int) : Int := if M1.vecOk ds = true then M1.lk ds r else -1

set_option maxHeartbeats 1000000 in
theorem vecOf_impl (av : Option Addr) (n cn : Nat) (ds : List (Int × Int)) (r : Int) (w : World) (h1 : IsVec w av n cn ds) :
    Calls Try.prog 16 #[.slice av n cn, .int .i64 r] w fun e w' => e = .returned (.int .i64 (ofP ds r)) ∧ Below w.heap.size w w' := by
  by_cases hv : M1.vecOk ds = true
  · have e1 : ofP ds r = M1.lk ds r := by simp [ofP, hv]
    rw [e1]; clear e1
    have HV : Hid (M1.vecOk ds = true) := hv
    clear hv
    by_cases hr : M1.inB r 1 5 = true
    · have hcs : r = 1 ∨ r = 2 ∨ r = 3 ∨ r = 4 ∨ r = 5 := by have := M1.inB_true hr; omega
      rcases hcs with rfl | rfl | rfl | rfl | rfl
      all_goals
        go_enter Try.func16, Try.ntmps16
        go_wp2_with fail
        refine (vectorFrom_yes _ _ _ _ _ h1 HV.out).mono ?_
        rintro e w1 ⟨rfl, hb1⟩
        have hB1 := hb1
        clear hb1
        obtain ⟨hc1, hf1⟩ := bcell hB1
        have hz1 := hB1.size
        (try simp [Nat.succ_le_iff] at hz1)
        go_wp2_with ((go_at_call 53; refine (inRange_any _ _ _ _).mono ?_; rintro e w' ⟨rfl, rfl⟩))
        go_ret
        refine ⟨rfl, ?_⟩
        repeat (first | (with_reducible exact Below.refl _ _) | ((with_reducible refine Below.setCell ?_ ?_ _); rotate_left; (focus (first | omega | (simp; done) | (simp; omega)))) | ((with_reducible refine Below.alloc ?_ ?_ _); rotate_left; (focus (first | omega | (simp; done) | (simp; omega)))) | (with_reducible refine Below.drew ?_) | ((with_reducible refine Below.trans ?_ (Below.mono hB1 ?_)); rotate_left; (focus (first | omega | (simp; done) | (simp; omega)))))
    · have HQ : Hid (M1.lk ds r = 0) := M1.lk_out HV.out (by simp [M1.inB] at hr; omega)
      rw [HQ.out]
      have hr' : M1.inB r 1 5 = false := by simpa using hr
      clear hr
      go_enter Try.func16, Try.ntmps16
      go_wp2_with fail
      refine (vectorFrom_yes _ _ _ _ _ h1 HV.out).mono ?_
      rintro e w1 ⟨rfl, hb1⟩
      have hB1 := hb1
      clear hb1
      obtain ⟨hc1, hf1⟩ := bcell hB1
      have hz1 := hB1.size
      (try simp [Nat.succ_le_iff] at hz1)
      go_wp2_with ((go_at_call 53; refine (inRange_any _ _ _ _).mono ?_; rintro e w' ⟨rfl, rfl⟩))
      go_ret
      refine ⟨rfl, ?_⟩
      repeat (first | (with_reducible exact Below.refl _ _) | ((with_reducible refine Below.setCell ?_ ?_ _); rotate_left; (focus (first | omega | (simp; done) | (simp; omega)))) | ((with_reducible refine Below.alloc ?_ ?_ _); rotate_left; (focus (first | omega | (simp; done) | (simp; omega)))) | (with_reducible refine Below.drew ?_) | ((with_reducible refine Below.trans ?_ (Below.mono hB1 ?_)); rotate_left; (focus (first | omega | (simp; done) | (simp; omega)))))
  · have e1 : ofP ds r = -1 := by simp [ofP, hv]
    rw [e1]; clear e1
    have HV : Hid (M1.vecOk ds = false) := (by simpa using hv : M1.vecOk ds = false)
    clear hv
    go_enter Try.func16, Try.ntmps16
    go_wp2_with fail
    refine (vectorFrom_no _ _ _ _ _ h1 HV.out).mono ?_
    rintro e w1 ⟨rfl, hb1⟩
    have hB1 := hb1
    clear hb1
    obtain ⟨hc1, hf1⟩ := bcell hB1
    have hz1 := hB1.size
    (try simp [Nat.succ_le_iff] at hz1)
    go_wp2_with fail
    go_ret
    refine ⟨rfl, ?_⟩
    repeat (first | (with_reducible exact Below.refl _ _) | ((with_reducible refine Below.setCell ?_ ?_ _); rotate_left; (focus (first | omega | (simp; done) | (simp; omega)))) | ((with_reducible refine Below.alloc ?_ ?_ _); rotate_left; (focus (first | omega | (simp; done) | (simp; omega)))) | (with_reducible refine Below.drew ?_) | ((with_reducible refine Below.trans ?_ (Below.mono hB1 ?_)); rotate_left; (focus (first | omega | (simp; done) | (simp; omega)))))

end Go.Proofs.Ytekmmkibpekkpaa
