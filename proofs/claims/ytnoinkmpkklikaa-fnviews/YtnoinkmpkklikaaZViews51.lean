/-
  The contract of the program's Kept: a range over a function whose body returns.
-/
import Derived.Test.YtnoinkmpkklikaaZViews50
namespace Go.Proofs.Ytnoinkmpkklikaa
open Go.ChangeShapes Go.WideShapes Go.ChangeAt Go.RowKit Go.Shelf
set_option linter.unusedSimpArgs false
attribute [local go_sem] Oper.semAt_some

set_option maxRecDepth 100000 in
set_option maxHeartbeats 4000000 in
theorem kept_impl (av : Option Addr) (n cn : Nat) (us : List M1.Upd) (tr : Int) (w : World) (h1 : IsUpds w av n cn us) :
    Calls Try.prog 24 #[.slice av n cn, .int .i64 tr] w fun e w' => e = .returned (.bool (M1.keptB us tr)) ∧ Below w.heap.size w w' := by
  have hl1 : Hid (us.length = n) := h1.hlen
  refine (callsIn_wide (n := 6)).1 ?_
  have hbw : Below w.heap.size w (w.alloc (.cells #[.bool false] 4)) := (Below.refl _ _).alloc (Nat.le_refl _) _
  have h1' := h1.below hbw
  by_cases hs : M1.setOk us = true
  · refine callsIn_of_wp_marks Try.func24 rfl trivial ?_ rfl
    simp only [Try.ntmps24, List.size_toArray, List.length_cons, List.length_nil, Nat.reduceAdd, Nat.reduceSub, Array.replicate_succ, Array.replicate_zero, List.push_toArray, List.append_toArray, List.nil_append, List.cons_append]
    gi_wp2_with fail
    refine ⟨trivial, ?_⟩
    refine (callsIn_wide.2 (setOk_impl _ _ _ _ _ h1')).mono ?_
    rw [hs]
    rintro e w1 ⟨rfl, hb1⟩
    gi_wp2_with fail
    refine ⟨trivial, ?_⟩
    refine (ofTrace_in Fence.wide 5 trivial rfl _ _ _ _ _ _).mono ?_
    rintro e w2 ⟨rfl, rfl⟩
    simp only [World.size_alloc]
    have bR1 : Boxed w1 w.heap.size 4 (.bool false) := (hb1.block w.heap.size (by simp)).trans (Boxed.new w 4 (.bool false))
    have bR := ((bR1.alloc (.cells #[.slice av n cn] 24)).alloc (.cells #[.int .i64 2] 2)).alloc (.cells #[.int .i64 tr] 2)
    have b0 := ((Boxed.new w1 24 (.slice av n cn)).alloc (.cells #[.int .i64 2] 2)).alloc (.cells #[.int .i64 tr] 2)
    have b1 := (Boxed.new (w1.alloc (.cells #[.slice av n cn] 24)) 2 (.int .i64 2)).alloc (.cells #[.int .i64 tr] 2)
    have b2 := Boxed.new ((w1.alloc (.cells #[.slice av n cn] 24)).alloc (.cells #[.int .i64 2] 2)) 2 (.int .i64 tr)
    simp only [World.size_alloc] at b1 b2
    have hs1 := hb1.size
    simp only [World.size_alloc] at hs1
    have hbx : Below w.heap.size w w1 := hbw.trans (hb1.mono (by simp))
    have hB0 : Below w.heap.size w (((w1.alloc (.cells #[.slice av n cn] 24)).alloc (.cells #[.int .i64 2] 2)).alloc (.cells #[.int .i64 tr] 2)) := ((hbx.alloc hbx.size _).alloc (by simp; omega) _).alloc (by simp; omega) _
    have hsz : (((w1.alloc (.cells #[.slice av n cn] 24)).alloc (.cells #[.int .i64 2] 2)).alloc (.cells #[.int .i64 tr] 2)).heap.size = w1.heap.size + 3 := by simp
    obtain ⟨W0, hW0⟩ : ∃ W0, ((w1.alloc (.cells #[.slice av n cn] 24)).alloc (.cells #[.int .i64 2] 2)).alloc (.cells #[.int .i64 tr] 2) = W0 := ⟨_, rfl⟩
    rw [hW0] at bR b0 b1 b2 hB0 hsz ⊢
    clear hW0
    gi_wp2_with fail
    refine wpIn_rangeFunc_ownF rfl (by omega) (gf := 68) (lb := #[.pointer (some ⟨w1.heap.size, 0, none⟩), .pointer (some ⟨w1.heap.size + 1, 0, none⟩), .pointer (some ⟨w1.heap.size + 1 + 1, 0, none⟩)]) rfl trivial (enters_of Try.func68 (by kernel_rfl) rfl)
      (ofTrace_stops Fence.wide _ trivial rfl (by omega) w1.heap.size av n cn 2 tr us w h1 W0 hB0 (by omega) b0.cell b1.cell b2.cell) kpI_t (kpI_put (by omega) (by omega)) (Below.refl _ _) (fun _ => rfl)
      (fun pre W => (Boxed W w.heap.size 4 (.bool false) ∧ Below w.heap.size w W) ∧ pre = [])
      (fun c pre W => (c = .ret ∧ pre ≠ [] ∧ Boxed W w.heap.size 4 (.bool true)) ∧ Below w.heap.size w W)
      (OwnFrom.and (OwnFrom.and (Own.from (boxed_own _ _ _) _) (ownFrom_below (Nat.le_refl _) (by omega))) (ownFrom_pure _ _))
      (fun c => OwnFrom.and (OwnFrom.and (ownFrom_pure _ _) (OwnFrom.and (ownFrom_pure _ _) (Own.from (boxed_own _ _ _) _))) (ownFrom_below (Nat.le_refl _) (by omega)))
      ⟨⟨bR, hB0⟩, rfl⟩
      (fun x => { tmps := #[.slice av n cn, .int .i64 tr, undef, undef, .pointer (some ⟨w.heap.size, 0, none⟩), .slice av n cn, .bool true, .bool false, .slice av n cn, .int .i64 tr, .func (.func 68) #[] #[.pointer (some ⟨w1.heap.size, 0, none⟩), .pointer (some ⟨w1.heap.size + 1, 0, none⟩), .pointer (some ⟨w1.heap.size + 1 + 1, 0, none⟩)], .agg #[.int .i64 x.dr, .int .i64 x.dn, .int .i64 x.sw, .int .i64 x.sc, .int .i64 x.sr, .int .i64 x.k, .int .i64 x.tr, .int .i64 x.id, .int .i64 x.pa, .string x.s, .int .i64 x.st, .int .i64 x.en, .int .i64 x.lv]], defers := [] })
      ?assign ?body ?done ?stop
    case assign =>
      intro l x W K hK
      gi_wp2
      first | exact hK | (simpa using hK) | (refine cast (congrArg (fun t => K { tmps := t, defers := [] } W) ?_) hK; rfl)
    case body =>
      rintro l pre x W ⟨⟨bR1, hB1⟩, rfl⟩ _
      have cR := bR1.cell
      have fR := bR1.frozen
      gi_wp2
      exact ⟨KeepsOthers.setCell _ _ _, ⟨rfl, by simp, bR1.set _⟩, hB1.setCell (p := ⟨w.heap.size, 0, none⟩) (Nat.le_refl _) _⟩
    case done =>
      rintro D zs W hD hz ⟨⟨bR1, hB1⟩, hpre⟩ hK
      have HQ : Hid (M1.keptB us tr = false) := (by unfold M1.keptB; rw [hs, hl1.out, ← hz, hpre]; rfl : M1.keptB us tr = false)
      have cR := bR1.cell
      have fR := bR1.frozen
      gi_wp2
      have hK' := (KeepsOthers.setCell W ⟨w.heap.size, 0, none⟩ (.bool false)).same D _ hK rfl
      refine ⟨by simp, .inl ⟨_, _, rfl, run_takeDeferred hK', ?_⟩⟩
      have hc5 := cell_kept (World.cell?_setCell_same' W ⟨w.heap.size, 0, none⟩ (.bool false) (by rw [cR]; rfl)) (grownBy_putObj' _ D (.deferred none)) (fun r e => by cases e; exact ⟨_, hK', rfl⟩)
      refine ⟨.bool false, ?_, by rw [HQ.out], (hB1.setCell (p := ⟨w.heap.size, 0, none⟩) (Nat.le_refl _) _).trans (belowK_b (w := w) (Nat.le_refl _) _ D _ _ (by omega) hK' rfl rfl)⟩
      simp [results, Try.results24, go_sem, hc5]
    case stop =>
      rintro D c pre W hD ⟨k, hk, hpre⟩ ⟨⟨rfl, hne, bR1⟩, hB1⟩ hK
      have HQ : Hid (M1.keptB us tr = true) := by
        have h2 : M1.ofT 2 tr us n ≠ [] := M1.ofT_some (k := k) (by rw [← hpre]; exact hne) hk
        show M1.keptB us tr = true
        unfold M1.keptB; rw [hs, hl1.out]; simpa using h2
      have cR := bR1.cell
      gi_wp2
      refine ⟨by simp, .inl ⟨_, _, rfl, run_takeDeferred hK, ?_⟩⟩
      have hc5 := cell_kept cR (grownBy_putObj' _ D (.deferred none)) (fun r e => by cases e; exact ⟨_, hK, rfl⟩)
      refine ⟨.bool true, ?_, by rw [HQ.out], hB1.trans (belowK_b (w := w) (Nat.le_refl _) W D _ _ (by omega) hK rfl rfl)⟩
      simp [results, Try.results24, go_sem, hc5]
  · replace hs : M1.setOk us = false := by simpa using hs
    have HQ : Hid (M1.keptB us tr = false) := (by unfold M1.keptB; rw [hs]; rfl : M1.keptB us tr = false)
    refine callsIn_of_wp_marks Try.func24 rfl trivial ?_ rfl
    simp only [Try.ntmps24, List.size_toArray, List.length_cons, List.length_nil, Nat.reduceAdd, Nat.reduceSub, Array.replicate_succ, Array.replicate_zero, List.push_toArray, List.append_toArray, List.nil_append, List.cons_append]
    gi_wp2_with fail
    refine ⟨trivial, ?_⟩
    refine (callsIn_wide.2 (setOk_impl _ _ _ _ _ h1')).mono ?_
    rw [hs]
    rintro e w1 ⟨rfl, hb1⟩
    have bR1 : Boxed w1 w.heap.size 4 (.bool false) := (hb1.block w.heap.size (by simp)).trans (Boxed.new w 4 (.bool false))
    have hbx : Below w.heap.size w w1 := hbw.trans (hb1.mono (by simp))
    have cR := bR1.cell
    have fR := bR1.frozen
    gi_wp2_with fail
    have cS := (bR1.set (.bool false)).cell
    refine ⟨.bool false, ?_, by rw [HQ.out], hbx.setCell (p := ⟨w.heap.size, 0, none⟩) (Nat.le_refl _) _⟩
    simp [results, Try.results24, go_sem, cS]
end Go.Proofs.Ytnoinkmpkklikaa
