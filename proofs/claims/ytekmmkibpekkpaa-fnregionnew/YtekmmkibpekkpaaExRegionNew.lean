/-
  For every number the law FnExactRegionNew answers true: RegionNew of the program answers as the model's does, and its answer is memory of its own, behind another call too. No condition.
-/
import Derived.Test.YtekmmkibpekkpaaReg4
import Derived.OpenShut
import Derived.ShutString
import Derived.ChangeOld
import Derived.Lib.SmallJoins
namespace Go.Proofs.Ytekmmkibpekkpaa
open Go.ChangeShapes Go.WideShapes Go.ChangeAt Go.RowKit

theorem isUpds_nil (w : World) : IsUpds w none 0 0 [] := ⟨rfl, Nat.le_refl _, Nat.zero_le _, fun _ hi => absurd hi (Nat.not_lt_zero _), Or.inl rfl⟩
theorem mu_nil (w : World) (lo hi : Nat) (f : Nat → Value) : MU w none 0 0 lo hi f := ⟨Nat.le_refl _, Nat.zero_le _, Or.inl ⟨rfl, rfl⟩⟩

theorem markRegion_nil (id a b c : Int) (k : Int) (w : World) (hk : 0 ≤ k) (hk2 : k ≤ 100000000) :
    Calls Try.prog 40 #[.agg #[.int .i64 id, .int .i64 a, .int .i64 b, .int .i64 c, .slice none 0 0], .int .i64 k] w fun e w' => e = .returned (.int .i64 k) ∧ Below w.heap.size w w' := by
  go_enter Try.func40, Try.ntmps40
  go_wp2_with fail
  refine (markU_any _ _ _ 0 0 (fun _ => undef) k _ (mu_nil _ _ _ _) (by omega) hk hk2).mono ?_
  rintro e w1 ⟨rfl, _, hm⟩
  have hb := hm.1 rfl
  go_wp2_with fail
  go_ret
  refine ⟨by simp, ?_⟩
  repeat (first | (with_reducible exact Below.refl _ _) | ((with_reducible refine Below.setCell ?_ ?_ _); rotate_left; (focus (first | omega | (simp; done) | (simp; omega)))) | ((with_reducible refine Below.alloc ?_ ?_ _); rotate_left; (focus (first | omega | (simp; done) | (simp; omega)))) | (with_reducible refine Below.drew ?_) | ((with_reducible refine Below.trans ?_ (Below.mono hb ?_)); rotate_left; (focus (first | omega | (simp; done) | (simp; omega)))))

theorem heldRegion_nil (id a b c : Int) (k : Int) (w : World) (hk : 0 ≤ k) (hk2 : k ≤ 100000000) :
    Calls Try.prog 41 #[.agg #[.int .i64 id, .int .i64 a, .int .i64 b, .int .i64 c, .slice none 0 0], .int .i64 k] w fun e w' => e = .returned (.int .i64 k) ∧ Below w.heap.size w w' := by
  go_enter Try.func41, Try.ntmps41
  go_wp2_with fail
  refine (heldU_any _ _ _ 0 0 k _ (mu_nil _ _ _ _) (by omega) hk hk2).mono ?_
  rintro e w1 ⟨rfl, hb⟩
  have hk3 : ¬ k < 0 := by omega
  have hk4 : k + 13 * ((0 : Nat) : Int) = k := by omega
  rw [hk4]
  go_wp2_with fail
  go_ret
  refine ⟨rfl, ?_⟩
  repeat (first | (with_reducible exact Below.refl _ _) | ((with_reducible refine Below.setCell ?_ ?_ _); rotate_left; (focus (first | omega | (simp; done) | (simp; omega)))) | ((with_reducible refine Below.alloc ?_ ?_ _); rotate_left; (focus (first | omega | (simp; done) | (simp; omega)))) | (with_reducible refine Below.drew ?_) | ((with_reducible refine Below.trans ?_ (Below.mono hb ?_)); rotate_left; (focus (first | omega | (simp; done) | (simp; omega)))))
end Go.Proofs.Ytekmmkibpekkpaa
namespace Go.Proofs.Ytekmmkibpekkpaa.exRegionNew
open Go.ChangeShapes Go.WideShapes Go.ChangeAt Go.RowKit
set_option linter.unusedVariables false
set_option linter.unusedSimpArgs false

set_option maxHeartbeats 8000000 in
set_option maxRecDepth 100000 in
theorem walk (id : Int) (w : World) :
    Calls Try.prog 8 #[.int .i64 id] w fun e w' => e = .returned (.bool true) ∧ Below w.heap.size w w' := by
  obtain ⟨x, hx⟩ : ∃ x : Int, Hid (x = (if M1.inB id 1 5 = true then id else 0)) := ⟨_, rfl⟩
  obtain ⟨y, hy⟩ : ∃ y : Bool, Hid (y = M1.inB id 1 5) := ⟨_, rfl⟩
  go_enter Try.func8, Try.ntmps8
  go_wp2_with fail
  refine (regionNew_spec _ _).mono ?_
  rw [← hx.out, ← hy.out]
  rintro e w1 ⟨rfl, hb1⟩
  have hs1 := hb1.size
  go_wp2_with fail
  obtain ⟨W1, hW1⟩ : ∃ W, W = (w1.alloc (.cells #[.int .i64 x, .int .i64 0, .int .i64 0, .int .i64 x, .slice none 0 0] 48)) := ⟨_, rfl⟩
  have bb1 : Below w1.heap.size w1 W1 := by rw [hW1]; exact (Below.refl _ _).alloc (Nat.le_refl _) _
  have hz1 : W1.heap.size = w1.heap.size + 1 := by rw [hW1]; simp
  have rw1 : RowAt W1 w1.heap.size 5 (fun o => (#[.int .i64 x, .int .i64 0, .int .i64 0, .int .i64 x, .slice none 0 0] : Array Value).getD o undef) := by rw [hW1]; exact RowAt.new w1 _ _
  rw [← hW1]
  clear hW1
  refine (regionNew_impl _ _).mono ?_
  rw [← hx.out, ← hy.out]
  rintro e w2 ⟨rfl, hb2⟩
  have hs2 := hb2.size
  have p2 := rw1.below hb2
  have B2 : Below w.heap.size w w2 := by repeat (first | (with_reducible exact Below.refl _ _) | ((with_reducible refine Below.setCell ?_ ?_ _); rotate_left; (focus (first | omega | (simp; done) | (simp; omega)))) | ((with_reducible refine Below.alloc ?_ ?_ _); rotate_left; (focus (first | omega | (simp; done) | (simp; omega)))) | (with_reducible refine Below.drew ?_) | ((with_reducible refine Below.trans ?_ (Below.mono hb2 ?_)); rotate_left; (focus (first | omega | (simp; done) | (simp; omega)))) | ((with_reducible refine Below.trans ?_ (Below.mono bb1 ?_)); rotate_left; (focus (first | omega | (simp; done) | (simp; omega)))) | ((with_reducible refine Below.trans ?_ (Below.mono hb1 ?_)); rotate_left; (focus (first | omega | (simp; done) | (simp; omega)))))
  have c0 := p2.cell (o := 0) (by omega)
  have c1 := p2.cell (o := 1) (by omega)
  have c2 := p2.cell (o := 2) (by omega)
  have c3 := p2.cell (o := 3) (by omega)
  have c4 := p2.cell (o := 4) (by omega)
  simp at c0 c1 c2 c3 c4
  have cl := p2.lt
  go_wp2_with fail
  clear c0 c1 c2 c3 c4 cl
  obtain ⟨W3, hW3⟩ : ∃ W, W = (w2.alloc (.cells #[.int .i64 x, .int .i64 0, .int .i64 0, .int .i64 x, .slice none 0 0] 48)) := ⟨_, rfl⟩
  have bb3 : Below w2.heap.size w2 W3 := by rw [hW3]; exact (Below.refl _ _).alloc (Nat.le_refl _) _
  have hz3 : W3.heap.size = w2.heap.size + 1 := by rw [hW3]; simp
  have rw3 : RowAt W3 w2.heap.size 5 (fun o => (#[.int .i64 x, .int .i64 0, .int .i64 0, .int .i64 x, .slice none 0 0] : Array Value).getD o undef) := by rw [hW3]; exact RowAt.new w2 _ _
  rw [← hW3]
  clear hW3
  have B3 : Below w.heap.size w W3 := by repeat (first | (with_reducible exact Below.refl _ _) | ((with_reducible refine Below.setCell ?_ ?_ _); rotate_left; (focus (first | omega | (simp; done) | (simp; omega)))) | ((with_reducible refine Below.alloc ?_ ?_ _); rotate_left; (focus (first | omega | (simp; done) | (simp; omega)))) | (with_reducible refine Below.drew ?_) | ((with_reducible refine Below.trans ?_ (Below.mono bb3 ?_)); rotate_left; (focus (first | omega | (simp; done) | (simp; omega)))) | ((with_reducible refine Below.trans ?_ (Below.mono B2 ?_)); rotate_left; (focus (first | omega | (simp; done) | (simp; omega)))))
  have p3 := p2.below bb3
  refine (eqRegion_self _ _ _ _ _ _ _ _ _ _ _ (isUpds_nil _) (isUpds_nil _)).mono ?_
  rintro e w4 ⟨rfl, hb4⟩
  have B4 : Below w.heap.size w w4 := by repeat (first | (with_reducible exact Below.refl _ _) | ((with_reducible refine Below.setCell ?_ ?_ _); rotate_left; (focus (first | omega | (simp; done) | (simp; omega)))) | ((with_reducible refine Below.alloc ?_ ?_ _); rotate_left; (focus (first | omega | (simp; done) | (simp; omega)))) | (with_reducible refine Below.drew ?_) | ((with_reducible refine Below.trans ?_ (Below.mono hb4 ?_)); rotate_left; (focus (first | omega | (simp; done) | (simp; omega)))) | ((with_reducible refine Below.trans ?_ (Below.mono B3 ?_)); rotate_left; (focus (first | omega | (simp; done) | (simp; omega)))))
  have p4 := p3.below hb4
  have q4 := rw3.below hb4
  have hs4 := hb4.size
  clear p3 rw3
  have c0 := p4.cell (o := 0) (by omega)
  have c1 := p4.cell (o := 1) (by omega)
  have c2 := p4.cell (o := 2) (by omega)
  have c3 := p4.cell (o := 3) (by omega)
  have c4 := p4.cell (o := 4) (by omega)
  simp at c0 c1 c2 c3 c4
  have cl := p4.lt
  have d0 := q4.cell (o := 0) (by omega)
  have d1 := q4.cell (o := 1) (by omega)
  have d2 := q4.cell (o := 2) (by omega)
  have d3 := q4.cell (o := 3) (by omega)
  have d4 := q4.cell (o := 4) (by omega)
  simp at d0 d1 d2 d3 d4
  have dl := q4.lt
  go_wp2_with fail
  refine (markRegion_nil _ _ _ _ _ _ (by omega) (by omega)).mono ?_
  rintro e w5 ⟨rfl, hb5⟩
  have B5 : Below w.heap.size w w5 := by repeat (first | (with_reducible exact Below.refl _ _) | ((with_reducible refine Below.setCell ?_ ?_ _); rotate_left; (focus (first | omega | (simp; done) | (simp; omega)))) | ((with_reducible refine Below.alloc ?_ ?_ _); rotate_left; (focus (first | omega | (simp; done) | (simp; omega)))) | (with_reducible refine Below.drew ?_) | ((with_reducible refine Below.trans ?_ (Below.mono hb5 ?_)); rotate_left; (focus (first | omega | (simp; done) | (simp; omega)))) | ((with_reducible refine Below.trans ?_ (Below.mono B4 ?_)); rotate_left; (focus (first | omega | (simp; done) | (simp; omega)))))
  have p5 := p4.below hb5
  have q5 := q4.below hb5
  have hs5 := hb5.size
  clear c0 c1 c2 c3 c4 d0 d1 d2 d3 d4 cl dl p4 q4
  have c0 := p5.cell (o := 0) (by omega)
  have c1 := p5.cell (o := 1) (by omega)
  have c2 := p5.cell (o := 2) (by omega)
  have c3 := p5.cell (o := 3) (by omega)
  have c4 := p5.cell (o := 4) (by omega)
  simp at c0 c1 c2 c3 c4
  have cl := p5.lt
  have d0 := q5.cell (o := 0) (by omega)
  have d1 := q5.cell (o := 1) (by omega)
  have d2 := q5.cell (o := 2) (by omega)
  have d3 := q5.cell (o := 3) (by omega)
  have d4 := q5.cell (o := 4) (by omega)
  simp at d0 d1 d2 d3 d4
  have dl := q5.lt
  go_wp2_with fail
  refine (heldRegion_nil _ _ _ _ _ _ (by omega) (by omega)).mono ?_
  rintro e w6 ⟨rfl, hb6⟩
  have B6 : Below w.heap.size w w6 := by repeat (first | (with_reducible exact Below.refl _ _) | ((with_reducible refine Below.setCell ?_ ?_ _); rotate_left; (focus (first | omega | (simp; done) | (simp; omega)))) | ((with_reducible refine Below.alloc ?_ ?_ _); rotate_left; (focus (first | omega | (simp; done) | (simp; omega)))) | (with_reducible refine Below.drew ?_) | ((with_reducible refine Below.trans ?_ (Below.mono hb6 ?_)); rotate_left; (focus (first | omega | (simp; done) | (simp; omega)))) | ((with_reducible refine Below.trans ?_ (Below.mono B5 ?_)); rotate_left; (focus (first | omega | (simp; done) | (simp; omega)))))
  have p6 := p5.below hb6
  have q6 := q5.below hb6
  have hs6 := hb6.size
  clear c0 c1 c2 c3 c4 d0 d1 d2 d3 d4 cl dl p5 q5
  go_wp2_with fail
  refine (regionNew_impl _ _).mono ?_
  rw [← hx.out, ← hy.out]
  rintro e w7 ⟨rfl, hb7⟩
  have hs7 := hb7.size
  have p7 := p6.below hb7
  have q7 := q6.below hb7
  have B7 : Below w.heap.size w w7 := by repeat (first | (with_reducible exact Below.refl _ _) | ((with_reducible refine Below.setCell ?_ ?_ _); rotate_left; (focus (first | omega | (simp; done) | (simp; omega)))) | ((with_reducible refine Below.alloc ?_ ?_ _); rotate_left; (focus (first | omega | (simp; done) | (simp; omega)))) | (with_reducible refine Below.drew ?_) | ((with_reducible refine Below.trans ?_ (Below.mono hb7 ?_)); rotate_left; (focus (first | omega | (simp; done) | (simp; omega)))) | ((with_reducible refine Below.trans ?_ (Below.mono B6 ?_)); rotate_left; (focus (first | omega | (simp; done) | (simp; omega)))))
  have c0 := p7.cell (o := 0) (by omega)
  have c1 := p7.cell (o := 1) (by omega)
  have c2 := p7.cell (o := 2) (by omega)
  have c3 := p7.cell (o := 3) (by omega)
  have c4 := p7.cell (o := 4) (by omega)
  simp at c0 c1 c2 c3 c4
  have cl := p7.lt
  go_wp2_with fail
  clear c0 c1 c2 c3 c4 cl
  obtain ⟨W8, hW8⟩ : ∃ W, W = (w7.alloc (.cells #[.int .i64 x, .int .i64 0, .int .i64 0, .int .i64 x, .slice none 0 0] 48)) := ⟨_, rfl⟩
  have bb8 : Below w7.heap.size w7 W8 := by rw [hW8]; exact (Below.refl _ _).alloc (Nat.le_refl _) _
  have hz8 : W8.heap.size = w7.heap.size + 1 := by rw [hW8]; simp
  have rw8 : RowAt W8 w7.heap.size 5 (fun o => (#[.int .i64 x, .int .i64 0, .int .i64 0, .int .i64 x, .slice none 0 0] : Array Value).getD o undef) := by rw [hW8]; exact RowAt.new w7 _ _
  rw [← hW8]
  clear hW8
  have B8 : Below w.heap.size w W8 := by repeat (first | (with_reducible exact Below.refl _ _) | ((with_reducible refine Below.setCell ?_ ?_ _); rotate_left; (focus (first | omega | (simp; done) | (simp; omega)))) | ((with_reducible refine Below.alloc ?_ ?_ _); rotate_left; (focus (first | omega | (simp; done) | (simp; omega)))) | (with_reducible refine Below.drew ?_) | ((with_reducible refine Below.trans ?_ (Below.mono bb8 ?_)); rotate_left; (focus (first | omega | (simp; done) | (simp; omega)))) | ((with_reducible refine Below.trans ?_ (Below.mono B7 ?_)); rotate_left; (focus (first | omega | (simp; done) | (simp; omega)))))
  have p8 := p7.below bb8
  have q8 := q7.below bb8
  refine (eqRegion_self _ _ _ _ _ _ _ _ _ _ _ (isUpds_nil _) (isUpds_nil _)).mono ?_
  rintro e w9 ⟨rfl, hb9⟩
  have B9 : Below w.heap.size w w9 := by repeat (first | (with_reducible exact Below.refl _ _) | ((with_reducible refine Below.setCell ?_ ?_ _); rotate_left; (focus (first | omega | (simp; done) | (simp; omega)))) | ((with_reducible refine Below.alloc ?_ ?_ _); rotate_left; (focus (first | omega | (simp; done) | (simp; omega)))) | (with_reducible refine Below.drew ?_) | ((with_reducible refine Below.trans ?_ (Below.mono hb9 ?_)); rotate_left; (focus (first | omega | (simp; done) | (simp; omega)))) | ((with_reducible refine Below.trans ?_ (Below.mono B8 ?_)); rotate_left; (focus (first | omega | (simp; done) | (simp; omega)))))
  have q9 := q8.below hb9
  have hs9 := hb9.size
  have d0 := q9.cell (o := 0) (by omega)
  have d1 := q9.cell (o := 1) (by omega)
  have d2 := q9.cell (o := 2) (by omega)
  have d3 := q9.cell (o := 3) (by omega)
  have d4 := q9.cell (o := 4) (by omega)
  simp at d0 d1 d2 d3 d4
  have dl := q9.lt
  go_wp2_with fail
  refine (heldRegion_nil _ _ _ _ _ _ (by omega) (by omega)).mono ?_
  rintro e w10 ⟨rfl, hb10⟩
  have B10 : Below w.heap.size w w10 := by repeat (first | (with_reducible exact Below.refl _ _) | ((with_reducible refine Below.setCell ?_ ?_ _); rotate_left; (focus (first | omega | (simp; done) | (simp; omega)))) | ((with_reducible refine Below.alloc ?_ ?_ _); rotate_left; (focus (first | omega | (simp; done) | (simp; omega)))) | (with_reducible refine Below.drew ?_) | ((with_reducible refine Below.trans ?_ (Below.mono hb10 ?_)); rotate_left; (focus (first | omega | (simp; done) | (simp; omega)))) | ((with_reducible refine Below.trans ?_ (Below.mono B9 ?_)); rotate_left; (focus (first | omega | (simp; done) | (simp; omega)))))
  go_wp2_with fail
  go_ret
  exact ⟨rfl, B10⟩

theorem own : ownKnob Try.prog.godebug = none := by kernel_rfl
theorem laidOut : laidOutB Try.prog = true := by kernel_rfl
set_option maxRecDepth 100000 in
theorem lifted (os : Os) (started : os.Started) (H : Type) (enc : TypeId × Value → H) :
    ReturnsInHanded {} Try.checked os 8 .any (Rows.fnExactRegionNewSpec.pre6 enc Try.prog Try.f8 Rows.fnExactRegionNewRow.domain false) (Rows.fnExactRegionNewSpec.post enc Try.prog Try.f8 false true false false) := by
  refine returnsInHanded_of_change (C := Try.checked) own started (by kernel_rfl) Try.func8
    (ChangeSpec.witness6 (enc := enc) (C := Try.checked) false ⟨#[], #[.int .i64 0], []⟩ 8 (by kernel_rfl) (by kernel_rfl) (by kernel_rfl) (by kernel_rfl)) ?_
  intro W base args ds gs before hval0 hW hcnd _
  have hval : ∀ (j : Nat) t v, Try.f8.params[j]? = some t → args[j]? = some v → Value.okWide Try.prog W .any base t v := hval0
  have hW' := hW
  obtain ⟨p, q, hA0, hV, rfl, hfz, hnd⟩ := hW
  have hA : DataW.TrodAll enc Try.prog W 0 (fun _ => true) true Try.f8.params.toList args.toList ds p := hA0
  rw [Try.params8] at hA hval
  obtain ⟨v0, vs0, d0, ds0, p0, q0, hargs, rfl, rfl, h0, r0⟩ := trodAll_cons hA
  obtain ⟨rfl, rfl, rfl⟩ := trodAll_nil r0
  obtain rfl : args = #[v0] := by cases args; simp_all
  obtain ⟨rfl, rfl⟩ := trodVars_none hV
  have k0 := h0
  have lt0 : ∀ x ∈ p0, x.block < W.heap.size := by obtain ⟨m, hm⟩ := k0; exact DataW.trod_lt m _ _ _ hm
  obtain ⟨a0, rfl, rfl, rfl, wfa0⟩ := open_int Try.underlying2 (hval 0 2 v0 rfl rfl) h0
  clear hA0 hval0
  refine (walk a0 W).mono fun e W' ⟨he, bel⟩ => ?_
  subst he
  exact ⟨_, rfl, _, _, _, [], _, [], hW', trodAll_mk1 (shut_bool Try.underlying4 _), (trodAll_cons_mk (Below.trod laidOut (by kernel_rfl) (of_decide_eq_true (by kernel_rfl)) k0 bel lt0) trodAll_mk0), rfl, bel.frame _, fun h => by cases h⟩

theorem over : Rows.fnExactRegionNewRow.holds Try.pinned (OpenSpec.ofChange Rows.fnExactRegionNewSpec) :=
  OpenClaim.holds_of_wide 8 Try.f8 rfl rfl rfl rfl rfl rfl rfl ⟨rfl, rfl, rfl, rfl, rfl⟩ rfl rfl rfl rfl rfl (by kernel_rfl) Try.func8 (by kernel_rfl)
    (of_decide_eq_true (by kernel_rfl)) (by unfold Func.isWrapper; first | (rw [if_pos (by decide +kernel)]; kernel_rfl) | (rw [if_neg (by decide +kernel)]; exact ⟨rfl, rfl⟩))
    (fun os started H enc _ => lifted os started H enc)

theorem proved : Rows.FnExactRegionNewSaid := over
end Go.Proofs.Ytekmmkibpekkpaa.exRegionNew
namespace Go.Proofs.Ytekmmkibpekkpaa
theorem fnExactRegionNew_holds : Rows.FnExactRegionNewSaid := exRegionNew.proved
end Go.Proofs.Ytekmmkibpekkpaa
