/-
  Texts of one proof, joined: ToUpdS.
-/
import Derived.Test.YtgcinolbkllkkaaGreatZXWorldOk04
import Derived.Test.YtgcinolbkllkkaaGreatZXWorldOk06
namespace Go.Proofs.YtgcinolbkllkkaaGreat
open Go.ChangeShapes Go.WideShapes Go.ChangeAt Go.RowKit
set_option linter.unusedSimpArgs false
theorem infoUpd0 : (Tryz.prog.info? 72).map (fun i => (i.zero, i.size, i.bytes)) = some (some (.agg #[.int .i64 0, .int .i64 0, .int .i64 0, .int .i64 0, .int .i64 0, .int .i64 0, .int .i64 0, .int .i64 0, .int .i64 0, .string ByteArray.empty, .int .i64 0, .int .i64 0, .int .i64 0]), 13, 112) := by kernel_rfl

theorem infoUpd : ∃ i, Tryz.prog.info? 72 = some i ∧ i.zero = some (.agg #[.int .i64 0, .int .i64 0, .int .i64 0, .int .i64 0, .int .i64 0, .int .i64 0, .int .i64 0, .int .i64 0, .int .i64 0, .string ByteArray.empty, .int .i64 0, .int .i64 0, .int .i64 0]) ∧ i.size = 13 ∧ i.bytes = 112 := by
 have h := infoUpd0
 cases e : Tryz.prog.info? 72 with
 | none => rw [e] at h; cases h
 | some i => rw [e] at h; simp at h; exact ⟨i, rfl, h.1, h.2.1, h.2.2⟩

set_option maxHeartbeats 4000000 in
theorem toUpdateS_any (av : Option Addr) (n cn : Nat) (us : List M1.Upd) (w : World) (h1 : IsUpds w av n cn us) (hn : n ≤ 1048576) :
  Calls Tryz.prog 106 #[.slice av n cn] w fun e w' => ∃ g, e = .returned (.slice (some ⟨g, 0, none⟩) n n) ∧ w.heap.size ≤ g ∧ RowAt w' g (n * 13) (ucell us) ∧ Below w.heap.size w w' := by
 have hm1 := h1.hcap
 have hm2 := h1.hmost
 unfold maxLen at hm2
 obtain ⟨ti, hi1, hi2, hi3, hi4⟩ := infoUpd
 have hi4' : Hid (ti.bytes = 112) := hi4
 have hi2' : Hid (ti.zero = some (.agg #[.int .i64 0, .int .i64 0, .int .i64 0, .int .i64 0, .int .i64 0, .int .i64 0, .int .i64 0, .int .i64 0, .int .i64 0, .string ByteArray.empty, .int .i64 0, .int .i64 0, .int .i64 0])) := hi2
 have hi3' : Hid (ti.size = 13) := hi3
 have hi1' : Hid (Tryz.prog.info? 72 = some ti) := hi1
 clear hi1 hi2 hi3 hi4
 go_enter Tryz.func106, Tryz.ntmps106
 go_wp2_with (at_make; refine wpList_make_full _ rfl _ _ _ rfl w.heap.size 72 ti _ 13 Tryz.underlying32 hi1'.out hi2'.out hi3'.out _ _ _ _ n rfl rfl rfl rfl (by rw [hi4'.out]; omega) (by unfold maxLen; omega) (Nat.le_refl _) ?_; intro w1 hown hgrow)
 have hrow0 := RowAt.of_owns hown
 have hB1 : Below w.heap.size w w1 := (Below.refl _ _).grown hgrow (Nat.le_refl _) (fun k e => by cases e)
 clear hown hgrow hi1' hi2' hi3' hi4'
 go_wp2_with fail
 go_loopw [4] (fun i wr => ∃ k : Nat, k ≤ n ∧ i = .int .i64 k ∧ Below w.heap.size w wr ∧ ∃ f, RowAt wr w.heap.size (n * 13) f ∧ Hid (∀ o, o < k * 13 → f o = ucell us o)) (fun i _ => n - (intOf i).toNat)
 case atStart => exact ⟨0, Nat.zero_le _, rfl, hB1, _, hrow0, fun o ho => absurd ho (by omega)⟩
 case round =>
  clear hrow0 hB1
  obtain ⟨k, hk, rfl, hB, f, hrow, hall⟩ := hrel
  by_cases hlt : k < n
  ·have g1 := h1.below hB
   rcases g1.hlies with h0 | ⟨b, off, rfl, hb, hc⟩
   ·omega
   obtain ⟨c0, c1, c2, c3, c4, c5, c6, c7, c8, c9, c10, c11, c12⟩ := hc k hlt
   clear hc g1
   have i0 : (0 : Int) ≤ (k : Int) := by omega
   have i1 : (k : Int) < (n : Int) := by omega
   go_wp2_with fail
   refine (toUpdate_any _ _ _ _ _ _ _ _ _ _ _ _ _ _).mono ?_
   rintro e w2 ⟨rfl, hb2⟩
   have hrow2 := hrow.below hb2
   have hB2 := hB.trans (hb2.mono hB.size)
   have d0 := hrow2.cell (o := k * 13) (by omega)
   have f0 := hrow2.free (o := k * 13) (by omega)
   have d1 := hrow2.cell (o := k * 13 + 1) (by omega)
   have f1 := hrow2.free (o := k * 13 + 1) (by omega)
   have d2 := hrow2.cell (o := k * 13 + 2) (by omega)
   have f2 := hrow2.free (o := k * 13 + 2) (by omega)
   have d3 := hrow2.cell (o := k * 13 + 3) (by omega)
   have f3 := hrow2.free (o := k * 13 + 3) (by omega)
   have d4 := hrow2.cell (o := k * 13 + 4) (by omega)
   have f4 := hrow2.free (o := k * 13 + 4) (by omega)
   have d5 := hrow2.cell (o := k * 13 + 5) (by omega)
   have f5 := hrow2.free (o := k * 13 + 5) (by omega)
   have d6 := hrow2.cell (o := k * 13 + 6) (by omega)
   have f6 := hrow2.free (o := k * 13 + 6) (by omega)
   have d7 := hrow2.cell (o := k * 13 + 7) (by omega)
   have f7 := hrow2.free (o := k * 13 + 7) (by omega)
   have d8 := hrow2.cell (o := k * 13 + 8) (by omega)
   have f8 := hrow2.free (o := k * 13 + 8) (by omega)
   have d9 := hrow2.cell (o := k * 13 + 9) (by omega)
   have f9 := hrow2.free (o := k * 13 + 9) (by omega)
   have d10 := hrow2.cell (o := k * 13 + 10) (by omega)
   have f10 := hrow2.free (o := k * 13 + 10) (by omega)
   have d11 := hrow2.cell (o := k * 13 + 11) (by omega)
   have f11 := hrow2.free (o := k * 13 + 11) (by omega)
   have d12 := hrow2.cell (o := k * 13 + 12) (by omega)
   have f12 := hrow2.free (o := k * 13 + 12) (by omega)
   go_wp2_with fail
   refine ⟨⟨k + 1, by omega, by go_num, (((((((((((((hB2.setCell (Nat.le_refl _) _).setCell (Nat.le_refl _) _).setCell (Nat.le_refl _) _).setCell (Nat.le_refl _) _).setCell (Nat.le_refl _) _).setCell (Nat.le_refl _) _).setCell (Nat.le_refl _) _).setCell (Nat.le_refl _) _).setCell (Nat.le_refl _) _).setCell (Nat.le_refl _) _).setCell (Nat.le_refl _) _).setCell (Nat.le_refl _) _).setCell (Nat.le_refl _) _), _, (((((((((((((hrow2.set (o := k * 13) (by omega) _).set (o := k * 13 + 1) (by omega) _).set (o := k * 13 + 2) (by omega) _).set (o := k * 13 + 3) (by omega) _).set (o := k * 13 + 4) (by omega) _).set (o := k * 13 + 5) (by omega) _).set (o := k * 13 + 6) (by omega) _).set (o := k * 13 + 7) (by omega) _).set (o := k * 13 + 8) (by omega) _).set (o := k * 13 + 9) (by omega) _).set (o := k * 13 + 10) (by omega) _).set (o := k * 13 + 11) (by omega) _).set (o := k * 13 + 12) (by omega) _), fun o ho => ?_⟩, by simp [intOf]; omega⟩
   by_cases hlo : o < k * 13
   ·simp only [if_neg (show ¬ o = k * 13 by omega), if_neg (show ¬ o = k * 13 + 1 by omega), if_neg (show ¬ o = k * 13 + 2 by omega), if_neg (show ¬ o = k * 13 + 3 by omega), if_neg (show ¬ o = k * 13 + 4 by omega), if_neg (show ¬ o = k * 13 + 5 by omega), if_neg (show ¬ o = k * 13 + 6 by omega), if_neg (show ¬ o = k * 13 + 7 by omega), if_neg (show ¬ o = k * 13 + 8 by omega), if_neg (show ¬ o = k * 13 + 9 by omega), if_neg (show ¬ o = k * 13 + 10 by omega), if_neg (show ¬ o = k * 13 + 11 by omega), if_neg (show ¬ o = k * 13 + 12 by omega)]
    exact hall.out o hlo
   ·obtain ⟨j, rfl⟩ : ∃ j, o = k * 13 + j := ⟨o - k * 13, by omega⟩
    rw [ucell_at us k j (by omega)]
    have hj : j = 0 ∨ j = 1 ∨ j = 2 ∨ j = 3 ∨ j = 4 ∨ j = 5 ∨ j = 6 ∨ j = 7 ∨ j = 8 ∨ j = 9 ∨ j = 10 ∨ j = 11 ∨ j = 12 := by omega
    rcases hj with rfl | rfl | rfl | rfl | rfl | rfl | rfl | rfl | rfl | rfl | rfl | rfl | rfl
    all_goals (simp [ucs])
  ·have hkn : Hid (k = n) := by show k = n; omega
   go_wp2_with fail
   go_ret
   exact ⟨_, rfl, Nat.le_refl _, hrow.same (fun o ho => hall.out o (by have := hkn.out; omega)), hB⟩

end Go.Proofs.YtgcinolbkllkkaaGreat
