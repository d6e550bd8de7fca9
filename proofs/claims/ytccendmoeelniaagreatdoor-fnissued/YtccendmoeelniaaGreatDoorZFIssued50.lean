/-
  Texts of one proof, joined: KeptI, Sn1.
-/
import Derived.Test.YtccendmoeelniaaGreatDoorZFIssued16
import Derived.Test.YtccendmoeelniaaGreatDoorZFIssued18
import Derived.Test.YtccendmoeelniaaGreatDoorRows
import Derived.Stop.LaidTwo
import Derived.LaidMore
namespace Go.Proofs.YtccendmoeelniaaGreatDoor
open Go.ChangeShapes Go.WideShapes Go.ChangeAt Go.RowKit Go.Shelf
set_option linter.unusedSimpArgs false
attribute [local go_sem] Oper.semAt_some
set_option maxRecDepth 100000 in
set_option maxHeartbeats 4000000 in
theorem kept_impl (av : Option Addr) (n cn : Nat) (us : List M1.Upd) (tr : Int) (w : World) (h1 : IsUpds w av n cn us) :
  Calls Tryz.prog 13 #[.slice av n cn, .int .i64 tr] w fun e w' => e = .returned (.bool (M1.keptB us tr)) ∧ Below w.heap.size w w' := by
 have hl1 : Hid (us.length = n) := h1.hlen
 refine (callsIn_wide (n := 6)).1 ?_
 have hbw : Below w.heap.size w (w.alloc (.cells #[.bool false] 4)) := (Below.refl _ _).alloc (Nat.le_refl _) _
 have h1' := h1.below hbw
 by_cases hs : M1.setOk us = true
 ·refine callsIn_of_wp_marks Tryz.func13 rfl trivial ?_ rfl
  simp only [Tryz.ntmps13, List.size_toArray, List.length_cons, List.length_nil, Nat.reduceAdd, Nat.reduceSub, Array.replicate_succ, Array.replicate_zero, List.push_toArray, List.append_toArray, List.nil_append, List.cons_append]
  gi_wp2_with fail
  refine ⟨trivial, ?_⟩
  refine (callsIn_wide.2 (setOk_impl _ _ _ _ _ h1')).mono ?_
  rw [hs]
  rintro e w1 ⟨rfl, hb1⟩
  gi_wp2_with fail
  refine ⟨trivial, ?_⟩
  refine (ofTrace_in Fence.wide 5 trivial rfl _ _ _ _ _ _).mono ?_
  rintro e w2 ⟨rfl, rfl⟩
  simp only [World.size_alloc]
  have bR1 : Boxed w1 w.heap.size 4 (.bool false) := (hb1.block w.heap.size (by simp)).trans (Boxed.new w 4 (.bool false))
  have bR := ((bR1.alloc (.cells #[.slice av n cn] 26)).alloc (.cells #[.int .i64 2] 2)).alloc (.cells #[.int .i64 tr] 2)
  have b0 := ((Boxed.new w1 26 (.slice av n cn)).alloc (.cells #[.int .i64 2] 2)).alloc (.cells #[.int .i64 tr] 2)
  have b1 := (Boxed.new (w1.alloc (.cells #[.slice av n cn] 26)) 2 (.int .i64 2)).alloc (.cells #[.int .i64 tr] 2)
  have b2 := Boxed.new ((w1.alloc (.cells #[.slice av n cn] 26)).alloc (.cells #[.int .i64 2] 2)) 2 (.int .i64 tr)
  simp only [World.size_alloc] at b1 b2
  have hs1 := hb1.size
  simp only [World.size_alloc] at hs1
  have hbx : Below w.heap.size w w1 := hbw.trans (hb1.mono (by simp))
  have hB0 : Below w.heap.size w (((w1.alloc (.cells #[.slice av n cn] 26)).alloc (.cells #[.int .i64 2] 2)).alloc (.cells #[.int .i64 tr] 2)) := ((hbx.alloc hbx.size _).alloc (by simp; omega) _).alloc (by simp; omega) _
  have hsz : (((w1.alloc (.cells #[.slice av n cn] 26)).alloc (.cells #[.int .i64 2] 2)).alloc (.cells #[.int .i64 tr] 2)).heap.size = w1.heap.size + 3 := by simp
  obtain ⟨W0, hW0⟩ : ∃ W0, ((w1.alloc (.cells #[.slice av n cn] 26)).alloc (.cells #[.int .i64 2] 2)).alloc (.cells #[.int .i64 tr] 2) = W0 := ⟨_, rfl⟩
  rw [hW0] at bR b0 b1 b2 hB0 hsz ⊢
  clear hW0
  gi_wp2_with fail
  refine wpIn_rangeFunc_ownF rfl (by omega) (gf := 100) (lb := #[.pointer (some ⟨w1.heap.size, 0, none⟩), .pointer (some ⟨w1.heap.size + 1, 0, none⟩), .pointer (some ⟨w1.heap.size + 1 + 1, 0, none⟩)]) rfl trivial (enters_of Tryz.func100 (by kernel_rfl) rfl)
   (ofTrace_stops Fence.wide _ trivial rfl (by omega) w1.heap.size av n cn 2 tr us w h1 W0 hB0 (by omega) b0.cell b1.cell b2.cell) kpI_t (kpI_put (by omega) (by omega)) (Below.refl _ _) (fun _ => rfl)
   (fun pre W => (Boxed W w.heap.size 4 (.bool false) ∧ Below w.heap.size w W) ∧ pre = [])
   (fun c pre W => (c = .ret ∧ pre ≠ [] ∧ Boxed W w.heap.size 4 (.bool true)) ∧ Below w.heap.size w W)
   (OwnFrom.and (OwnFrom.and (Own.from (boxed_own _ _ _) _) (ownFrom_below (Nat.le_refl _) (by omega))) (ownFrom_pure _ _))
   (fun c => OwnFrom.and (OwnFrom.and (ownFrom_pure _ _) (OwnFrom.and (ownFrom_pure _ _) (Own.from (boxed_own _ _ _) _))) (ownFrom_below (Nat.le_refl _) (by omega)))
   ⟨⟨bR, hB0⟩, rfl⟩
   (fun x => { tmps := #[.slice av n cn, .int .i64 tr, undef, undef, .pointer (some ⟨w.heap.size, 0, none⟩), .slice av n cn, .bool true, .bool false, .slice av n cn, .int .i64 tr, .func (.func 100) #[] #[.pointer (some ⟨w1.heap.size, 0, none⟩), .pointer (some ⟨w1.heap.size + 1, 0, none⟩), .pointer (some ⟨w1.heap.size + 1 + 1, 0, none⟩)], .agg #[.int .i64 x.dr, .int .i64 x.dn, .int .i64 x.sw, .int .i64 x.sc, .int .i64 x.sr, .int .i64 x.k, .int .i64 x.tr, .int .i64 x.id, .int .i64 x.pa, .string x.s, .int .i64 x.st, .int .i64 x.en, .int .i64 x.lv]], defers := [] })
   ?assign ?body ?done ?stop
  case assign =>
   intro l x W K hK
   gi_wp2
   first | exact hK | (simpa using hK) | (refine cast (congrArg (fun t => K { tmps := t, defers := [] } W) ?_) hK; rfl)
  case body =>
   rintro l pre x W ⟨⟨bR1, hB1⟩, rfl⟩ _
   have cR := bR1.cell
   have fR := bR1.frozen
   gi_wp2
   exact ⟨KeepsOthers.setCell _ _ _, ⟨rfl, by simp, bR1.set _⟩, hB1.setCell (p := ⟨w.heap.size, 0, none⟩) (Nat.le_refl _) _⟩
  case done =>
   rintro D zs W hD hz ⟨⟨bR1, hB1⟩, hpre⟩ hK
   have HQ : Hid (M1.keptB us tr = false) := (by unfold M1.keptB; rw [hs, hl1.out, ← hz, hpre]; rfl : M1.keptB us tr = false)
   have cR := bR1.cell
   have fR := bR1.frozen
   gi_wp2
   have hK' := (KeepsOthers.setCell W ⟨w.heap.size, 0, none⟩ (.bool false)).same D _ hK rfl
   refine ⟨by simp, .inl ⟨_, _, rfl, run_takeDeferred hK', ?_⟩⟩
   have hc5 := cell_kept (World.cell?_setCell_same' W ⟨w.heap.size, 0, none⟩ (.bool false) (by rw [cR]; rfl)) (grownBy_putObj' _ D (.deferred none)) (fun r e => by cases e; exact ⟨_, hK', rfl⟩)
   refine ⟨.bool false, ?_, by rw [HQ.out], (hB1.setCell (p := ⟨w.heap.size, 0, none⟩) (Nat.le_refl _) _).trans (belowK_b (w := w) (Nat.le_refl _) _ D _ _ (by omega) hK' rfl rfl)⟩
   simp [results, Tryz.results13, go_sem, hc5]
  case stop =>
   rintro D c pre W hD ⟨k, hk, hpre⟩ ⟨⟨rfl, hne, bR1⟩, hB1⟩ hK
   have HQ : Hid (M1.keptB us tr = true) := by
    have h2 : M1.ofT 2 tr us n ≠ [] := M1.ofT_some (k := k) (by rw [← hpre]; exact hne) hk
    show M1.keptB us tr = true
    unfold M1.keptB; rw [hs, hl1.out]; simpa using h2
   have cR := bR1.cell
   gi_wp2
   refine ⟨by simp, .inl ⟨_, _, rfl, run_takeDeferred hK, ?_⟩⟩
   have hc5 := cell_kept cR (grownBy_putObj' _ D (.deferred none)) (fun r e => by cases e; exact ⟨_, hK, rfl⟩)
   refine ⟨.bool true, ?_, by rw [HQ.out], hB1.trans (belowK_b (w := w) (Nat.le_refl _) W D _ _ (by omega) hK rfl rfl)⟩
   simp [results, Tryz.results13, go_sem, hc5]
 ·replace hs : M1.setOk us = false := by simpa using hs
  have HQ : Hid (M1.keptB us tr = false) := (by unfold M1.keptB; rw [hs]; rfl : M1.keptB us tr = false)
  refine callsIn_of_wp_marks Tryz.func13 rfl trivial ?_ rfl
  simp only [Tryz.ntmps13, List.size_toArray, List.length_cons, List.length_nil, Nat.reduceAdd, Nat.reduceSub, Array.replicate_succ, Array.replicate_zero, List.push_toArray, List.append_toArray, List.nil_append, List.cons_append]
  gi_wp2_with fail
  refine ⟨trivial, ?_⟩
  refine (callsIn_wide.2 (setOk_impl _ _ _ _ _ h1')).mono ?_
  rw [hs]
  rintro e w1 ⟨rfl, hb1⟩
  have bR1 : Boxed w1 w.heap.size 4 (.bool false) := (hb1.block w.heap.size (by simp)).trans (Boxed.new w 4 (.bool false))
  have hbx : Below w.heap.size w w1 := hbw.trans (hb1.mono (by simp))
  have cR := bR1.cell
  have fR := bR1.frozen
  gi_wp2_with fail
  have cS := (bR1.set (.bool false)).cell
  refine ⟨.bool false, ?_, by rw [HQ.out], hbx.setCell (p := ⟨w.heap.size, 0, none⟩) (Nat.le_refl _) _⟩
  simp [results, Tryz.results13, go_sem, cS]

end Go.Proofs.YtccendmoeelniaaGreatDoor

namespace Go.Proofs.YtccendmoeelniaaGreatDoor
open Go.ChangeShapes Go.WideShapes Go.ChangeAt Go.RowKit
set_option linter.unusedVariables false
theorem trodVars_len {H : Type} {enc : TypeId × Value → H} {P : Program} {W : World} {sp : Nat → Bool} : ∀ {ns : List String} {gs : List (DataW H)} {ps : List MemPlace}, DataW.TrodVars enc P W sp ns gs ps → gs.length = ns.length
 | [], [], _, _ => rfl
 | [], _ :: _, _, h => h.elim
 | _ :: _, [], _, h => h.elim
 | n :: ns, d :: ds, ps, h => by
  obtain ⟨_, _, _, _, _, _, _, _, _, _, hs, _⟩ := h
  simp [trodVars_len hs]

theorem list5 {A : Type} {l : List A} (h : l.length = 5) : ∃ a b c d e, l = [a, b, c, d, e] := by
 match l, h with
 | [a, b, c, d, e], _ => exact ⟨a, b, c, d, e, rfl⟩

def LL : List (String × DataW Unit) := Rows.fnExactReceivedRow.laid

theorem hd_rt : (Tryz.prog.cutTypes.find? (·.1 == "internal/reflectlite.rtype")).map (·.2) = some 187 := by kernel_rfl

theorem hd_et : Tryz.prog.globalNamed "errors.errorType" = some 5 := by kernel_rfl

theorem hd_size : Tryz.prog.types.size = 258 := by kernel_rfl

theorem hd_one : ((List.range 258).filter fun t => Tryz.prog.rowNamed t [101, 114, 114, 111, 114]) = [82] := by kernel_rfl

theorem handle_of {W : World} (h : handlesMet Tryz.prog (LL.take 1) W) : W.cell? ⟨5, 0, none⟩ = some (.iface 187 (rt 82)) := by
 obtain ⟨name, u, ty, e1, e2, e3, e4, e5⟩ := h ("errors.errorType", Rows.laid_errors_errorType) (by exact List.mem_cons_self)
 have en : name = [101, 114, 114, 111, 114] := (Option.some.inj e1).symm
 subst en
 obtain rfl := Option.some.inj (hd_rt.symm.trans e2)
 have hm : ty ∈ (List.range 258).filter fun t => Tryz.prog.rowNamed t [101, 114, 114, 111, 114] := List.mem_filter.2 ⟨List.mem_range.2 (by rw [← hd_size]; exact e3), e4⟩
 rw [hd_one] at hm
 obtain rfl := List.mem_singleton.1 hm
 have hh : typeHandle Tryz.prog 82 = .pointer (some ⟨6, 82, none⟩) := by kernel_rfl
 rw [hh] at e5
 simpa using World.var?_cell hd_et e5 0

theorem hd_star : "*" ++ "errors.errorString" = "*errors.errorString" := by decide

theorem hd_row (u : TypeId) (h : Tryz.prog.typeName? 3 u = some "*errors.errorString") : u = 223 :=
 typeName_ptr_named (nm := "errors.errorString") (by rw [hd_star]; kernel_rfl) (by kernel_rfl) (by decide) u (by rw [hd_star]; exact h)

theorem hd_c1 : Tryz.prog.cellsOf 243 = 1 := by kernel_rfl

theorem hd_c2 : Tryz.prog.cellsOf 9 = 1 := by kernel_rfl

theorem hd_p : laidMetH Tryz.prog LL = fun W => laidMet Tryz.prog (LL.drop 1) W ∧ handlesMet Tryz.prog (LL.take 1) W := rfl

theorem ne_of {W : World} {a b : Addr} {s t : ByteArray} (ha : W.cell? a = some (.string s)) (hb : W.cell? b = some (.string t)) (h : ¬ s.data.toList = t.data.toList) : a ≠ b := fun e => by
 rw [e, hb] at ha
 injection ha with ha
 injection ha with ha
 exact h (by rw [ha])

set_option maxRecDepth 100000 in
theorem sens_of {W : World} (h : laidMetH Tryz.prog LL W) : ∃ s0 s1 s2 s3 s4, Sens W s0 s1 s2 s3 s4 := by
 have h' : laidMet Tryz.prog (LL.drop 1) W ∧ handlesMet Tryz.prog (LL.take 1) W := by rw [hd_p] at h; exact h
 have ct := handle_of h'.2
 have q1 := h'.1
 have q2 : laidMet Tryz.prog (LL.drop 3) W := q1.tail.tail
 have q3 : laidMet Tryz.prog (LL.drop 4) W := q2.tail
 obtain ⟨a0, a1, s0, s1, c0, c1, t0, t1, hv0, hv1, hc0, hs0, _, hc1, hs1, _, n01, hb0, hb1⟩ := laid_sentinels2 (P := Tryz.prog) (g0 := 0) (g1 := 1) (tp := 223) q1 (by kernel_rfl) (by kernel_rfl) (by kernel_rfl) (by kernel_rfl) Tryz.underlying82 hd_row Tryz.underlying223 Tryz.underlying243 rfl rfl Tryz.underlying9 hd_c1 hd_c2
 obtain ⟨a4, a3, s4, s3, c4, c3, t4, t3, hv4, hv3, hc4, hs4, _, hc3, hs3, _, n43, hb4, hb3⟩ := laid_sentinels2 (P := Tryz.prog) (g0 := 4) (g1 := 3) (tp := 223) q2 (by kernel_rfl) (by kernel_rfl) (by kernel_rfl) (by kernel_rfl) Tryz.underlying82 hd_row Tryz.underlying223 Tryz.underlying243 rfl rfl Tryz.underlying9 hd_c1 hd_c2
 obtain ⟨_, a2, _, s2, _, c2, _, t2, _, hv2, _, _, _, hc2, hs2, _, _, _, hb2⟩ := laid_sentinels2 (P := Tryz.prog) (g0 := 3) (g1 := 2) (tp := 223) q3 (by kernel_rfl) (by kernel_rfl) (by kernel_rfl) (by kernel_rfl) Tryz.underlying82 hd_row Tryz.underlying223 Tryz.underlying243 rfl rfl Tryz.underlying9 hd_c1 hd_c2
 have v0 : W.cell? ⟨0, 0, none⟩ = some (es a0) := by simpa using World.var?_cell (P := Tryz.prog) (g := 0) (by kernel_rfl) hv0 0
 have v1 : W.cell? ⟨1, 0, none⟩ = some (es a1) := by simpa using World.var?_cell (P := Tryz.prog) (g := 1) (by kernel_rfl) hv1 0
 have v2 : W.cell? ⟨2, 0, none⟩ = some (es a2) := by simpa using World.var?_cell (P := Tryz.prog) (g := 2) (by kernel_rfl) hv2 0
 have v3 : W.cell? ⟨3, 0, none⟩ = some (es a3) := by simpa using World.var?_cell (P := Tryz.prog) (g := 3) (by kernel_rfl) hv3 0
 have v4 : W.cell? ⟨4, 0, none⟩ = some (es a4) := by simpa using World.var?_cell (P := Tryz.prog) (g := 4) (by kernel_rfl) hv4 0
 have g5 : 5 < W.heap.size := by
  rcases Nat.lt_or_ge 5 W.heap.size with q | q
  ·exact q
  ·have : W.heap[5]? = none := Array.getElem?_eq_none q
   simp [World.cell?, this] at ct
 exact ⟨a0, a1, a2, a3, a4, v0, v1, v2, v3, v4, ct, ⟨_, _, hb0⟩, ⟨_, _, hb1⟩, ⟨_, _, hb2⟩, ⟨_, _, hb3⟩, ⟨_, _, hb4⟩, n01, ne_of hc0 hc2 (by rw [hs0, hs2]; decide), ne_of hc0 hc3 (by rw [hs0, hs3]; decide), ne_of hc0 hc4 (by rw [hs0, hs4]; decide), ne_of hc1 hc2 (by rw [hs1, hs2]; decide), ne_of hc1 hc3 (by rw [hs1, hs3]; decide), ne_of hc1 hc4 (by rw [hs1, hs4]; decide), ne_of hc2 hc3 (by rw [hs2, hs3]; decide), ne_of hc2 hc4 (by rw [hs2, hs4]; decide), ne_of hc3 hc4 (by rw [hs3, hs4]; decide), g5⟩

end Go.Proofs.YtccendmoeelniaaGreatDoor
