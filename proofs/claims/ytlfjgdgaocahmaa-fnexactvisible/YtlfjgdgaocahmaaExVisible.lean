/-
  For every slice of updates and every trace the law FnExactVisible answers true: Visible of the program answers as the model's does; the argument reads as it did. No condition.
-/
import Derived.Test.YtlfjgdgaocahmaaLevelS
import Derived.Test.YtlfjgdgaocahmaaKeptI
import Derived.Test.YtlfjgdgaocahmaaToUpdS
import Derived.Test.YtlfjgdgaocahmaaSet2
import Derived.Test.YtlfjgdgaocahmaaOpenUpds
import Derived.OpenShut
import Derived.ShutString
import Derived.ChangeOld
import Derived.Lib.SmallJoins
namespace Go.Proofs.Ytlfjgdgaocahmaa.exVisible
open Go.ChangeShapes Go.WideShapes Go.ChangeAt Go.RowKit
set_option linter.unusedVariables false

theorem walk (av : Option Addr) (n cn : Nat) (us : List M1.Upd) (tr : Int) (w : World) (h1 : IsUpds w av n cn us) :
    Calls Try.prog 7 #[.slice av n cn, .int .i64 tr] w fun e w' => e = .returned (.bool true) ∧ Below w.heap.size w w' := by
  have hm1 := h1.hcap
  have hm2 := h1.hmost
  go_enter Try.func7, Try.ntmps7
  go_wp2_with fail
  refine (szUpdateS_any _ _ _ _ _ _ h1 (by omega) (by omega)).mono ?_
  rintro e w0 ⟨⟨r, hn, hr0, hr1, rfl⟩ | rfl, hb0⟩
  · have hn' : n ≤ 1048576 := by omega
    have h1a := h1.below hb0
    go_wp2_with fail
    refine (toUpdateS_any _ _ _ _ _ h1a hn').mono ?_
    rintro e w1 ⟨g1, rfl, hg1, r1, hb1⟩
    have hB1 := hb0.trans (hb1.mono hb0.size)
    have v1 := isUpds_of_row h1.hlen (Nat.le_refl _) (by unfold maxLen; omega) h1.htxt r1
    go_wp2_with fail
    refine (visible_spec _ _ _ _ _ _ v1).mono ?_
    rintro e w2 ⟨rfl, hb2⟩
    have hB2 := hB1.trans (hb2.mono hB1.size)
    clear v1 r1
    go_wp2_with fail
    refine (toUpdateS_any _ _ _ _ _ (h1.below hB2) hn').mono ?_
    rintro e w3 ⟨g3, rfl, hg3, r3, hb3⟩
    have hB3 := hB2.trans (hb3.mono hB2.size)
    have v3 := isUpds_of_row h1.hlen (Nat.le_refl _) (by unfold maxLen; omega) h1.htxt r3
    go_wp2_with fail
    refine (visible_impl _ _ _ _ _ _ v3).mono ?_
    rintro e w4 ⟨rfl, hb4⟩
    have hB4 := hB3.trans (hb4.mono hB3.size)
    have v4 := v3.below hb4
    clear v3 r3
    go_wp2_with fail
    refine (toUpdateS_any _ _ _ _ _ (h1.below hB4) hn').mono ?_
    rintro e w5 ⟨g5, rfl, hg5, r5, hb5⟩
    have hB5 := hB4.trans (hb5.mono hB4.size)
    have v5 := isUpds_of_row h1.hlen (Nat.le_refl _) (by unfold maxLen; omega) h1.htxt r5
    go_wp2_with fail
    refine (eqUpdateS_self _ _ _ _ _ _ _ (v4.below hb5) v5).mono ?_
    rintro e w6 ⟨rfl, hb6⟩
    have hB6 := hB5.trans (hb6.mono hB5.size)
    go_wp2_with fail
    go_ret
    exact ⟨rfl, hB6⟩
  · go_wp2_with fail
    go_ret
    exact ⟨rfl, hb0⟩

theorem own : ownKnob Try.prog.godebug = none := by kernel_rfl
theorem laidOut : laidOutB Try.prog = true := by kernel_rfl
set_option maxRecDepth 100000 in
theorem lifted (os : Os) (started : os.Started) (H : Type) (enc : TypeId × Value → H) :
    ReturnsInHanded {} Try.checked os 7 .any (Rows.fnExactVisibleSpec.pre6 enc Try.prog Try.f7 Rows.fnExactVisibleRow.domain false) (Rows.fnExactVisibleSpec.post enc Try.prog Try.f7 false true false false) := by
  refine returnsInHanded_of_change (C := Try.checked) own started (by kernel_rfl) Try.func7
    (ChangeSpec.witness6 (enc := enc) (C := Try.checked) false ⟨#[], #[.slice none 0 0, .int .i64 0], []⟩ 8 (by kernel_rfl) (by kernel_rfl) (by kernel_rfl) (by kernel_rfl)) ?_
  intro W base args ds gs before hval0 hW hcnd _
  have hval : ∀ (j : Nat) t v, Try.f7.params[j]? = some t → args[j]? = some v → Value.okWide Try.prog W .any base t v := hval0
  have hW' := hW
  obtain ⟨p, q, hA0, hV, rfl, hfz, hnd⟩ := hW
  have hA : DataW.TrodAll enc Try.prog W 0 (fun _ => true) true Try.f7.params.toList args.toList ds p := hA0
  rw [Try.params7] at hA hval
  obtain ⟨v0, vs0, d0, ds0, p0, q0, hargs, rfl, rfl, h0, r0⟩ := trodAll_cons hA
  obtain ⟨v1, vs1, d1, ds1, p1, q1, rfl, rfl, rfl, h1, r1⟩ := trodAll_cons r0
  obtain ⟨rfl, rfl, rfl⟩ := trodAll_nil r1
  obtain rfl : args = #[v0, v1] := by cases args; simp_all
  obtain ⟨rfl, rfl⟩ := trodVars_none hV
  have k0 := h0
  have lt0 : ∀ x ∈ p0, x.block < W.heap.size := by obtain ⟨m, hm⟩ := k0; exact DataW.trod_lt m _ _ _ hm
  have k1 := h1
  have lt1 : ∀ x ∈ p1, x.block < W.heap.size := by obtain ⟨m, hm⟩ := k1; exact DataW.trod_lt m _ _ _ hm
  obtain ⟨a0, l0, c0, rfl⟩ := okWide_slice Try.underlying42 (hval 0 42 v0 rfl rfl)
  obtain ⟨fu0, hf0⟩ := h0
  obtain ⟨us0, vec0⟩ := open_updates hf0
  obtain ⟨a1, rfl, rfl, rfl, wfa1⟩ := open_int Try.underlying2 (hval 1 2 v1 rfl rfl) h1
  clear hA0 hval0
  refine (walk a0 l0 c0 us0 a1 W vec0).mono fun e W' ⟨he, bel⟩ => ?_
  subst he
  exact ⟨_, rfl, _, _, _, [], _, [], hW', trodAll_mk1 (shut_bool Try.underlying4 _), (trodAll_cons_mk (Below.trod laidOut (by kernel_rfl) (of_decide_eq_true (by kernel_rfl)) k0 bel lt0) (trodAll_cons_mk (Below.trod laidOut (by kernel_rfl) (of_decide_eq_true (by kernel_rfl)) k1 bel lt1) trodAll_mk0)), rfl, bel.frame _, fun h => by cases h⟩

theorem over : Rows.fnExactVisibleRow.holds Try.pinned (OpenSpec.ofChange Rows.fnExactVisibleSpec) :=
  OpenClaim.holds_of_wide 7 Try.f7 rfl rfl rfl rfl rfl rfl rfl ⟨rfl, rfl, rfl, rfl, rfl⟩ rfl rfl rfl rfl rfl (by kernel_rfl) Try.func7 (by kernel_rfl)
    (of_decide_eq_true (by kernel_rfl)) (by unfold Func.isWrapper; first | (rw [if_pos (by decide +kernel)]; kernel_rfl) | (rw [if_neg (by decide +kernel)]; exact ⟨rfl, rfl⟩))
    (fun os started H enc _ => lifted os started H enc)

theorem proved : Rows.FnExactVisibleSaid := over
end Go.Proofs.Ytlfjgdgaocahmaa.exVisible
namespace Go.Proofs.Ytlfjgdgaocahmaa
theorem fnExactVisible_holds : Rows.FnExactVisibleSaid := exVisible.proved
end Go.Proofs.Ytlfjgdgaocahmaa
