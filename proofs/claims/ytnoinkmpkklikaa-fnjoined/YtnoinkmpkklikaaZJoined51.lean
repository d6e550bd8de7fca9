/-
  The contract of the program's VecJoin.
-/
import Derived.Test.YtnoinkmpkklikaaZJoined21
namespace Go.Proofs.Ytnoinkmpkklikaa
open Go.ChangeShapes Go.WideShapes Go.ChangeAt Go.RowKit

/-- What the array holds at place o behind q rounds. -/
def mval (xs ys : List (Int × Int)) (q o : Nat) : Int := if o < q then max (M1.lk xs ((o : Int) + 1)) (M1.lk ys ((o : Int) + 1)) else M1.lk xs ((o : Int) + 1)
theorem mval_step (xs ys : List (Int × Int)) (q o : Nat) (v : Int) (hv : v = max (M1.lk xs ((q : Int) + 1)) (M1.lk ys ((q : Int) + 1))) :
    (if o = q then Value.int .i64 v else Value.int .i64 (mval xs ys q o)) = Value.int .i64 (mval xs ys (q + 1) o) := by
  unfold mval
  by_cases e : o = q
  · subst e; rw [if_pos rfl, if_pos (by omega), hv]
  · rw [if_neg e]
    by_cases h : o < q
    · rw [if_pos h, if_pos (by omega)]
    · rw [if_neg h, if_neg (by omega)]

set_option maxHeartbeats 8000000 in
theorem vecJoin_impl (av bv : Option Addr) (n cn m cm : Nat) (xs ys : List (Int × Int)) (w : World) (h1 : IsVec w av n cn xs) (h2 : IsVec w bv m cm ys) :
    Calls Try.prog 17 #[.slice av n cn, .slice bv m cm] w fun e w' => Joined w w' e (M1.joinL xs ys) ∧ Below w.heap.size w w' := by
  by_cases hv : M1.vecOk xs = true
  · have HV : Hid (M1.vecOk xs = true) := hv
    by_cases hu : M1.vecOk ys = true
    · have HU : Hid (M1.vecOk ys = true) := hu
      have e1 : M1.joinL xs ys = M1.dlTo (fun r => max (M1.lk xs r) (M1.lk ys r)) 5 := by simp [M1.joinL, hv, hu]
      rw [e1]; clear e1 hv hu
      go_enter Try.func17, Try.ntmps17
      go_wp2_with fail
      refine (vectorFrom_yes _ _ _ _ _ h1 HV.out).mono ?_
      rintro e w1 ⟨rfl, hb1⟩
      have hB1 := hb1
      clear hb1
      obtain ⟨hc1, hf1⟩ := bcell hB1
      have hz1 := hB1.size
      (try simp [Nat.succ_le_iff] at hz1)
      go_wp2_with fail
      refine (vectorFrom_yes _ _ _ _ _ (h2.below (hB1.alloc hB1.size _)) HU.out).mono ?_
      rintro e w2 ⟨rfl, hb2⟩
      have hB2 := hb2
      clear hb2
      obtain ⟨hc2, hf2⟩ := bcell hB2
      have hz2 := hB2.size
      (try simp [Nat.succ_le_iff] at hz2)
      have hz : w1.heap.size < w2.heap.size := by omega
      have hs1 := hB1.size
      have row0 : RowAt (w1.alloc (.cells #[.int .i64 (M1.lk xs 1), .int .i64 (M1.lk xs 2), .int .i64 (M1.lk xs 3), .int .i64 (M1.lk xs 4), .int .i64 (M1.lk xs 5)] 59)) w1.heap.size 5 (fun o => .int .i64 (mval xs ys 0 o)) :=
        (RowAt.new w1 #[.int .i64 (M1.lk xs 1), .int .i64 (M1.lk xs 2), .int .i64 (M1.lk xs 3), .int .i64 (M1.lk xs 4), .int .i64 (M1.lk xs 5)] 59).same fun o ho => by
          match o, ho with
          | 0, _ => rfl
          | 1, _ => rfl
          | 2, _ => rfl
          | 3, _ => rfl
          | 4, _ => rfl
      have row2 := (row0.below hB2).alloc (.cells #[.int .i64 (M1.lk ys 1), .int .i64 (M1.lk ys 2), .int .i64 (M1.lk ys 3), .int .i64 (M1.lk ys 4), .int .i64 (M1.lk ys 5)] 59)
      have hBB : Below w.heap.size w (w2.alloc (.cells #[.int .i64 (M1.lk ys 1), .int .i64 (M1.lk ys 2), .int .i64 (M1.lk ys 3), .int .i64 (M1.lk ys 4), .int .i64 (M1.lk ys 5)] 59)) := by
        repeat (first | (with_reducible exact Below.refl _ _) | ((with_reducible refine Below.setCell ?_ ?_ _); rotate_left; (focus (first | omega | (simp; done) | (simp; omega)))) | ((with_reducible refine Below.alloc ?_ ?_ _); rotate_left; (focus (first | omega | (simp; done) | (simp; omega)))) | (with_reducible refine Below.drew ?_) | ((with_reducible refine Below.trans ?_ (Below.mono hB2 ?_)); rotate_left; (focus (first | omega | (simp; done) | (simp; omega)))) | ((with_reducible refine Below.trans ?_ (Below.mono hB1 ?_)); rotate_left; (focus (first | omega | (simp; done) | (simp; omega)))))
      go_wp2_with fail
      clear hc1 hf1 hz1 hc2 hf2 hz2 row0 hB1 hB2
      go_loopw [9, 10, 28] (fun _ _ i wr => ∃ q : Int, 0 ≤ q ∧ q ≤ 5 ∧ i = .int .i64 q ∧ Below w.heap.size w wr ∧ RowAt wr w1.heap.size 5 (fun o => .int .i64 (mval xs ys q.toNat o))) (fun _ _ i _ => 5 - (intOf i).toNat)
      case atStart => exact ⟨0, by omega, by omega, rfl, hBB, row2⟩
      case round =>
        clear hBB row2
        obtain ⟨q, hq0, hq5, rfl, hB, hr⟩ := hrel
        have x0 := @idx0
        have x1 := @idx1
        have x2 := @idx2
        have x3 := @idx3
        have x4 := @idx4
        by_cases hlt : q < 5
        · obtain rfl | rfl | rfl | rfl | rfl : q = 0 ∨ q = 1 ∨ q = 2 ∨ q = 3 ∨ q = 4 := by omega
          · have d0 : wr.cell? ⟨w1.heap.size, 0, none⟩ = some (.int .i64 (M1.lk xs 1)) := hr.cell (o := 0) (by omega)
            have d1 : wr.frozen? ⟨w1.heap.size, 0, none⟩ = false := hr.free (o := 0) (by omega)
            by_cases hAB : M1.lk xs 1 < M1.lk ys 1
            · go_wp2_with fail
              refine ⟨⟨1, by omega, by omega, rfl, (hB.setCell hs1 _), (hr.set (o := 0) (by omega) _).same fun o ho => ?_⟩, by simp [intOf]⟩
              exact mval_step xs ys 0 o (M1.lk ys 1) (by show M1.lk ys 1 = max (M1.lk xs 1) (M1.lk ys 1); omega)
            · go_wp2_with fail
              refine ⟨⟨1, by omega, by omega, rfl, (hB.setCell hs1 _), (hr.set (o := 0) (by omega) _).same fun o ho => ?_⟩, by simp [intOf]⟩
              exact mval_step xs ys 0 o (M1.lk xs 1) (by show M1.lk xs 1 = max (M1.lk xs 1) (M1.lk ys 1); omega)
          · have d0 : wr.cell? ⟨w1.heap.size, 1, none⟩ = some (.int .i64 (M1.lk xs 2)) := hr.cell (o := 1) (by omega)
            have d1 : wr.frozen? ⟨w1.heap.size, 1, none⟩ = false := hr.free (o := 1) (by omega)
            by_cases hAB : M1.lk xs 2 < M1.lk ys 2
            · go_wp2_with fail
              refine ⟨⟨2, by omega, by omega, rfl, (hB.setCell hs1 _), (hr.set (o := 1) (by omega) _).same fun o ho => ?_⟩, by simp [intOf]⟩
              exact mval_step xs ys 1 o (M1.lk ys 2) (by show M1.lk ys 2 = max (M1.lk xs 2) (M1.lk ys 2); omega)
            · go_wp2_with fail
              refine ⟨⟨2, by omega, by omega, rfl, (hB.setCell hs1 _), (hr.set (o := 1) (by omega) _).same fun o ho => ?_⟩, by simp [intOf]⟩
              exact mval_step xs ys 1 o (M1.lk xs 2) (by show M1.lk xs 2 = max (M1.lk xs 2) (M1.lk ys 2); omega)
          · have d0 : wr.cell? ⟨w1.heap.size, 2, none⟩ = some (.int .i64 (M1.lk xs 3)) := hr.cell (o := 2) (by omega)
            have d1 : wr.frozen? ⟨w1.heap.size, 2, none⟩ = false := hr.free (o := 2) (by omega)
            by_cases hAB : M1.lk xs 3 < M1.lk ys 3
            · go_wp2_with fail
              refine ⟨⟨3, by omega, by omega, rfl, (hB.setCell hs1 _), (hr.set (o := 2) (by omega) _).same fun o ho => ?_⟩, by simp [intOf]⟩
              exact mval_step xs ys 2 o (M1.lk ys 3) (by show M1.lk ys 3 = max (M1.lk xs 3) (M1.lk ys 3); omega)
            · go_wp2_with fail
              refine ⟨⟨3, by omega, by omega, rfl, (hB.setCell hs1 _), (hr.set (o := 2) (by omega) _).same fun o ho => ?_⟩, by simp [intOf]⟩
              exact mval_step xs ys 2 o (M1.lk xs 3) (by show M1.lk xs 3 = max (M1.lk xs 3) (M1.lk ys 3); omega)
          · have d0 : wr.cell? ⟨w1.heap.size, 3, none⟩ = some (.int .i64 (M1.lk xs 4)) := hr.cell (o := 3) (by omega)
            have d1 : wr.frozen? ⟨w1.heap.size, 3, none⟩ = false := hr.free (o := 3) (by omega)
            by_cases hAB : M1.lk xs 4 < M1.lk ys 4
            · go_wp2_with fail
              refine ⟨⟨4, by omega, by omega, rfl, (hB.setCell hs1 _), (hr.set (o := 3) (by omega) _).same fun o ho => ?_⟩, by simp [intOf]⟩
              exact mval_step xs ys 3 o (M1.lk ys 4) (by show M1.lk ys 4 = max (M1.lk xs 4) (M1.lk ys 4); omega)
            · go_wp2_with fail
              refine ⟨⟨4, by omega, by omega, rfl, (hB.setCell hs1 _), (hr.set (o := 3) (by omega) _).same fun o ho => ?_⟩, by simp [intOf]⟩
              exact mval_step xs ys 3 o (M1.lk xs 4) (by show M1.lk xs 4 = max (M1.lk xs 4) (M1.lk ys 4); omega)
          · have d0 : wr.cell? ⟨w1.heap.size, 4, none⟩ = some (.int .i64 (M1.lk xs 5)) := hr.cell (o := 4) (by omega)
            have d1 : wr.frozen? ⟨w1.heap.size, 4, none⟩ = false := hr.free (o := 4) (by omega)
            by_cases hAB : M1.lk xs 5 < M1.lk ys 5
            · go_wp2_with fail
              refine ⟨⟨5, by omega, by omega, rfl, (hB.setCell hs1 _), (hr.set (o := 4) (by omega) _).same fun o ho => ?_⟩, by simp [intOf]⟩
              exact mval_step xs ys 4 o (M1.lk ys 5) (by show M1.lk ys 5 = max (M1.lk xs 5) (M1.lk ys 5); omega)
            · go_wp2_with fail
              refine ⟨⟨5, by omega, by omega, rfl, (hB.setCell hs1 _), (hr.set (o := 4) (by omega) _).same fun o ho => ?_⟩, by simp [intOf]⟩
              exact mval_step xs ys 4 o (M1.lk xs 5) (by show M1.lk xs 5 = max (M1.lk xs 5) (M1.lk ys 5); omega)
        · obtain rfl : q = 5 := by omega
          have d0 : wr.cell? ⟨w1.heap.size, 0, none⟩ = some (.int .i64 (max (M1.lk xs 1) (M1.lk ys 1))) := hr.cell (o := 0) (by omega)
          have d1 : wr.cell? ⟨w1.heap.size, 1, none⟩ = some (.int .i64 (max (M1.lk xs 2) (M1.lk ys 2))) := hr.cell (o := 1) (by omega)
          have d2 : wr.cell? ⟨w1.heap.size, 2, none⟩ = some (.int .i64 (max (M1.lk xs 3) (M1.lk ys 3))) := hr.cell (o := 2) (by omega)
          have d3 : wr.cell? ⟨w1.heap.size, 3, none⟩ = some (.int .i64 (max (M1.lk xs 4) (M1.lk ys 4))) := hr.cell (o := 3) (by omega)
          have d4 : wr.cell? ⟨w1.heap.size, 4, none⟩ = some (.int .i64 (max (M1.lk xs 5) (M1.lk ys 5))) := hr.cell (o := 4) (by omega)
          go_wp2_with fail
          refine (dotsOf_any (fun r => max (M1.lk xs r) (M1.lk ys r)) _).mono ?_
          rintro e w5 ⟨⟨v, rfl, hown⟩, hb5⟩
          have hB5 := hB.trans (hb5.mono hB.size)
          have hown' := owns_less hown hB.size
          go_wp2_with fail
          go_ret
          exact ⟨⟨_, rfl, hown'⟩, hB5⟩
    · have HU : Hid (M1.vecOk ys = false) := (by simpa using hu : M1.vecOk ys = false)
      have e1 : M1.joinL xs ys = [] := by simp [M1.joinL, hu]
      rw [e1]; clear e1 hv hu
      go_enter Try.func17, Try.ntmps17
      go_wp2_with fail
      refine (vectorFrom_yes _ _ _ _ _ h1 HV.out).mono ?_
      rintro e w1 ⟨rfl, hb1⟩
      have hB1 := hb1
      clear hb1
      obtain ⟨hc1, hf1⟩ := bcell hB1
      have hz1 := hB1.size
      (try simp [Nat.succ_le_iff] at hz1)
      go_wp2_with fail
      refine (vectorFrom_no _ _ _ _ _ (h2.below (hB1.alloc hB1.size _)) HU.out).mono ?_
      rintro e w2 ⟨rfl, hb2⟩
      have hB2 := hb2
      clear hb2
      obtain ⟨hc2, hf2⟩ := bcell hB2
      have hz2 := hB2.size
      (try simp [Nat.succ_le_iff] at hz2)
      go_wp2_with fail
      go_ret
      refine ⟨⟨_, rfl, owns_nil _ _ _⟩, ?_⟩
      repeat (first | (with_reducible exact Below.refl _ _) | ((with_reducible refine Below.setCell ?_ ?_ _); rotate_left; (focus (first | omega | (simp; done) | (simp; omega)))) | ((with_reducible refine Below.alloc ?_ ?_ _); rotate_left; (focus (first | omega | (simp; done) | (simp; omega)))) | (with_reducible refine Below.drew ?_) | ((with_reducible refine Below.trans ?_ (Below.mono hB2 ?_)); rotate_left; (focus (first | omega | (simp; done) | (simp; omega)))) | ((with_reducible refine Below.trans ?_ (Below.mono hB1 ?_)); rotate_left; (focus (first | omega | (simp; done) | (simp; omega)))))
  · have HV : Hid (M1.vecOk xs = false) := (by simpa using hv : M1.vecOk xs = false)
    have e1 : M1.joinL xs ys = [] := by simp [M1.joinL, hv]
    rw [e1]; clear e1 hv
    by_cases hu : M1.vecOk ys = true
    · have HU : Hid (M1.vecOk ys = true) := hu
      clear hu
      go_enter Try.func17, Try.ntmps17
      go_wp2_with fail
      refine (vectorFrom_no _ _ _ _ _ h1 HV.out).mono ?_
      rintro e w1 ⟨rfl, hb1⟩
      have hB1 := hb1
      clear hb1
      obtain ⟨hc1, hf1⟩ := bcell hB1
      have hz1 := hB1.size
      (try simp [Nat.succ_le_iff] at hz1)
      go_wp2_with fail
      refine (vectorFrom_yes _ _ _ _ _ (h2.below (hB1.alloc hB1.size _)) HU.out).mono ?_
      rintro e w2 ⟨rfl, hb2⟩
      have hB2 := hb2
      clear hb2
      obtain ⟨hc2, hf2⟩ := bcell hB2
      have hz2 := hB2.size
      (try simp [Nat.succ_le_iff] at hz2)
      go_wp2_with fail
      go_ret
      refine ⟨⟨_, rfl, owns_nil _ _ _⟩, ?_⟩
      repeat (first | (with_reducible exact Below.refl _ _) | ((with_reducible refine Below.setCell ?_ ?_ _); rotate_left; (focus (first | omega | (simp; done) | (simp; omega)))) | ((with_reducible refine Below.alloc ?_ ?_ _); rotate_left; (focus (first | omega | (simp; done) | (simp; omega)))) | (with_reducible refine Below.drew ?_) | ((with_reducible refine Below.trans ?_ (Below.mono hB2 ?_)); rotate_left; (focus (first | omega | (simp; done) | (simp; omega)))) | ((with_reducible refine Below.trans ?_ (Below.mono hB1 ?_)); rotate_left; (focus (first | omega | (simp; done) | (simp; omega)))))
    · have HU : Hid (M1.vecOk ys = false) := (by simpa using hu : M1.vecOk ys = false)
      clear hu
      go_enter Try.func17, Try.ntmps17
      go_wp2_with fail
      refine (vectorFrom_no _ _ _ _ _ h1 HV.out).mono ?_
      rintro e w1 ⟨rfl, hb1⟩
      have hB1 := hb1
      clear hb1
      obtain ⟨hc1, hf1⟩ := bcell hB1
      have hz1 := hB1.size
      (try simp [Nat.succ_le_iff] at hz1)
      go_wp2_with fail
      refine (vectorFrom_no _ _ _ _ _ (h2.below (hB1.alloc hB1.size _)) HU.out).mono ?_
      rintro e w2 ⟨rfl, hb2⟩
      have hB2 := hb2
      clear hb2
      obtain ⟨hc2, hf2⟩ := bcell hB2
      have hz2 := hB2.size
      (try simp [Nat.succ_le_iff] at hz2)
      go_wp2_with fail
      go_ret
      refine ⟨⟨_, rfl, owns_nil _ _ _⟩, ?_⟩
      repeat (first | (with_reducible exact Below.refl _ _) | ((with_reducible refine Below.setCell ?_ ?_ _); rotate_left; (focus (first | omega | (simp; done) | (simp; omega)))) | ((with_reducible refine Below.alloc ?_ ?_ _); rotate_left; (focus (first | omega | (simp; done) | (simp; omega)))) | (with_reducible refine Below.drew ?_) | ((with_reducible refine Below.trans ?_ (Below.mono hB2 ?_)); rotate_left; (focus (first | omega | (simp; done) | (simp; omega)))) | ((with_reducible refine Below.trans ?_ (Below.mono hB1 ?_)); rotate_left; (focus (first | omega | (simp; done) | (simp; omega)))))
end Go.Proofs.Ytnoinkmpkklikaa
