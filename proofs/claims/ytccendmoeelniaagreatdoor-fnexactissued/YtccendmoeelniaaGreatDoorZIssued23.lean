/-
  Texts of one proof, joined: Cov, Dots, VecU.
-/
import Derived.Test.YtccendmoeelniaaGreatDoorZIssued05
import Derived.Test.YtccendmoeelniaaGreatDoorZIssued02
import Derived.Test.YtccendmoeelniaaGreatDoorZIssued09
import Derived.Test.YtccendmoeelniaaGreatDoorZIssued04
import Derived.Test.YtccendmoeelniaaGreatDoorZIssued22
import Derived.Test.YtccendmoeelniaaGreatDoorZIssued15
namespace Go.Proofs.YtccendmoeelniaaGreatDoor
open Go.ChangeShapes Go.WideShapes Go.ChangeAt Go.RowKit
theorem idx0 (a b c d e : Int) (w : World) : Sem.run Tryz.prog (Instr.index 96 (.agg #[.int .i64 a, .int .i64 b, .int .i64 c, .int .i64 d, .int .i64 e]) (.int .i64 0)) w = .ok (.int .i64 a) w := by kernel_rfl

theorem idx1 (a b c d e : Int) (w : World) : Sem.run Tryz.prog (Instr.index 96 (.agg #[.int .i64 a, .int .i64 b, .int .i64 c, .int .i64 d, .int .i64 e]) (.int .i64 1)) w = .ok (.int .i64 b) w := by kernel_rfl

theorem idx2 (a b c d e : Int) (w : World) : Sem.run Tryz.prog (Instr.index 96 (.agg #[.int .i64 a, .int .i64 b, .int .i64 c, .int .i64 d, .int .i64 e]) (.int .i64 2)) w = .ok (.int .i64 c) w := by kernel_rfl

theorem idx3 (a b c d e : Int) (w : World) : Sem.run Tryz.prog (Instr.index 96 (.agg #[.int .i64 a, .int .i64 b, .int .i64 c, .int .i64 d, .int .i64 e]) (.int .i64 3)) w = .ok (.int .i64 d) w := by kernel_rfl

theorem idx4 (a b c d e : Int) (w : World) : Sem.run Tryz.prog (Instr.index 96 (.agg #[.int .i64 a, .int .i64 b, .int .i64 c, .int .i64 d, .int .i64 e]) (.int .i64 4)) w = .ok (.int .i64 e) w := by kernel_rfl

end Go.Proofs.YtccendmoeelniaaGreatDoor

namespace Go.Proofs.YtccendmoeelniaaGreatDoor
open Go.ChangeShapes Go.WideShapes Go.ChangeAt Go.RowKit
def Joined (w w' : World) (e : Ending) (ds : List (Int × Int)) : Prop := ∃ v, e = .returned v ∧ w'.ownsRow w.heap.size 36 2 v ds.length (dcs ds)

end Go.Proofs.YtccendmoeelniaaGreatDoor

namespace Go.Proofs.YtccendmoeelniaaGreatDoor
open Go.ChangeShapes Go.WideShapes Go.ChangeAt Go.RowKit
set_option linter.unusedSimpArgs false
set_option maxHeartbeats 4000000 in
set_option maxRecDepth 100000 in
theorem lastOf_any (av : Option Addr) (n cn : Nat) (us : List M1.Upd) (w : World) (h1 : IsUpds w av n cn us) (hr : Hid (∀ j, j < n → 1 ≤ (M1.up us j).dr ∧ (M1.up us j).dr ≤ 5)) :
    Calls Tryz.prog 57 #[.slice av n cn] w fun e w' => e = .returned (.agg #[.int .i64 (M1.lastN us n 1), .int .i64 (M1.lastN us n 2), .int .i64 (M1.lastN us n 3), .int .i64 (M1.lastN us n 4), .int .i64 (M1.lastN us n 5)]) ∧ Below w.heap.size w w' := by
  have hm1 := h1.hcap
  have hm2 := h1.hmost
  unfold maxLen at hm2
  go_enter Tryz.func57, Tryz.ntmps57
  go_wp2_with fail
  go_loopw [8] (fun i wr => ∃ k : Nat, k ≤ n ∧ i = .int .i64 k ∧ Below w.heap.size w wr ∧ RowAt wr w.heap.size 5 (fun _ => .int .i64 0) ∧ RowAt wr (w.heap.size + 1) 5 (fun o => .int .i64 (M1.lastN us k (o + 1)))) (fun i _ => n - (intOf i).toNat)
  case atStart =>
    refine ⟨0, Nat.zero_le _, rfl, ?_, ?_, ?_⟩
    · repeat (first | (with_reducible exact Below.refl _ _) | ((with_reducible refine Below.setCell ?_ ?_ _); rotate_left; (focus (first | omega | (simp; done) | (simp; omega)))) | ((with_reducible refine Below.alloc ?_ ?_ _); rotate_left; (focus (first | omega | (simp; done) | (simp; omega)))) | (with_reducible refine Below.drew ?_))
    · exact (RowAt.zero5 _ _ _ (fun _ => rfl)).alloc _
    · have := RowAt.zero5 (w.alloc (.cells #[.int .i64 0, .int .i64 0, .int .i64 0, .int .i64 0, .int .i64 0] 96)) 96 (fun o => .int .i64 (M1.lastN us 0 (o + 1))) (fun _ => rfl)
      simpa using this
  case round =>
    obtain ⟨k, hk, rfl, hB, hr0, hr1⟩ := hrel
    have hs0 := hr0.lt
    have hs1 := hr1.lt
    by_cases hlt : k < n
    · have g1 := h1.below hB
      rcases g1.hlies with h0 | ⟨b, off, rfl, hb, hc⟩
      · omega
      obtain ⟨c0, c1, c2, c3, c4, c5, c6, c7, c8, c9, c10, c11, c12⟩ := hc k hlt
      obtain ⟨q1, q2⟩ := hr.out k hlt
      have i0 : (0 : Int) ≤ (k : Int) := by omega
      have i1 : (k : Int) < (n : Int) := by omega
      clear hc g1
      have hr0' := hr0.alloc (.cells #[.int .i64 (M1.up us k).dr, .int .i64 (M1.up us k).dn, .int .i64 (M1.up us k).sw, .int .i64 (M1.up us k).sc, .int .i64 (M1.up us k).sr, .int .i64 (M1.up us k).k, .int .i64 (M1.up us k).tr, .int .i64 (M1.up us k).id, .int .i64 (M1.up us k).pa, .string (M1.up us k).s, .int .i64 (M1.up us k).st, .int .i64 (M1.up us k).en, .int .i64 (M1.up us k).lv] 38)
      have hr1' := hr1.alloc (.cells #[.int .i64 (M1.up us k).dr, .int .i64 (M1.up us k).dn, .int .i64 (M1.up us k).sw, .int .i64 (M1.up us k).sc, .int .i64 (M1.up us k).sr, .int .i64 (M1.up us k).k, .int .i64 (M1.up us k).tr, .int .i64 (M1.up us k).id, .int .i64 (M1.up us k).pa, .string (M1.up us k).s, .int .i64 (M1.up us k).st, .int .i64 (M1.up us k).en, .int .i64 (M1.up us k).lv] 38)
      have ht : ((M1.up us k).dr.toNat - 1) < 5 := by omega
      have d1 := hr1.cell (o := ((M1.up us k).dr.toNat - 1)) ht
      have d2 := hr1.free (o := ((M1.up us k).dr.toNat - 1)) ht
      have hne : ¬ w.heap.size + 1 = wr.heap.size := by omega
      go_wp2_with fail
      refine ⟨⟨k + 1, by omega, by go_num, ?_, ?_, ?_⟩, by simp [intOf]; omega⟩
      · repeat (first | (with_reducible exact Below.refl _ _) | ((with_reducible refine Below.setCell ?_ ?_ _); rotate_left; (focus (first | omega | (simp; done) | (simp; omega)))) | ((with_reducible refine Below.alloc ?_ ?_ _); rotate_left; (focus (first | omega | (simp; done) | (simp; omega)))) | (with_reducible refine Below.drew ?_) | ((with_reducible refine Below.trans ?_ (Below.mono hB ?_)); rotate_left; (focus (first | omega | (simp; done) | (simp; omega)))))
      · exact (hr0.far (by simp) _).alloc _
      · refine ((hr1.set ht _).alloc _).same fun o ho => ?_
        show (if o = ((M1.up us k).dr.toNat - 1) then _ else _) = _
        rw [M1.lastN_succ]
        by_cases e : o = ((M1.up us k).dr.toNat - 1)
        · rw [if_pos e, if_pos (by omega)]
        · rw [if_neg e, if_neg (by omega)]
    · have hkn : Hid (k = n) := (by omega : k = n)
      have z0 := hr0.cell (o := 0) (by omega)
      have z1 := hr0.cell (o := 1) (by omega)
      have z2 := hr0.cell (o := 2) (by omega)
      have z3 := hr0.cell (o := 3) (by omega)
      have z4 := hr0.cell (o := 4) (by omega)
      have y0 := hr0.free (o := 0) (by omega)
      have y1 := hr0.free (o := 1) (by omega)
      have y2 := hr0.free (o := 2) (by omega)
      have y3 := hr0.free (o := 3) (by omega)
      have y4 := hr0.free (o := 4) (by omega)
      have d0 := hr1.cell (o := 0) (by omega)
      have d1 := hr1.cell (o := 1) (by omega)
      have d2 := hr1.cell (o := 2) (by omega)
      have d3 := hr1.cell (o := 3) (by omega)
      have d4 := hr1.cell (o := 4) (by omega)
      go_wp2_with fail
      refine bodyPost_ret (v := .agg #[.int .i64 (M1.lastN us n 1), .int .i64 (M1.lastN us n 2), .int .i64 (M1.lastN us n 3), .int .i64 (M1.lastN us n 4), .int .i64 (M1.lastN us n 5)]) ?_ rfl ⟨rfl, ?_⟩
      · rw [← hkn.out]
        simp [results, Tryz.results57, go_sem, cell_set_same, *]
      · repeat (first | (with_reducible exact Below.refl _ _) | ((with_reducible refine Below.setCell ?_ ?_ _); rotate_left; (focus (first | omega | (simp; done) | (simp; omega)))) | ((with_reducible refine Below.alloc ?_ ?_ _); rotate_left; (focus (first | omega | (simp; done) | (simp; omega)))) | (with_reducible refine Below.drew ?_) | ((with_reducible refine Below.trans ?_ (Below.mono hB ?_)); rotate_left; (focus (first | omega | (simp; done) | (simp; omega)))))

end Go.Proofs.YtccendmoeelniaaGreatDoor
