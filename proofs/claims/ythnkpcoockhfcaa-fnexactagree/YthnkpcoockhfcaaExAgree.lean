/-
  For all two slices of updates the law FnExactAgree answers true: Agree of the program answers as the model's does; the arguments read as they did. No condition.
-/
import Derived.Test.YthnkpcoockhfcaaAgreeI
import Derived.Test.YthnkpcoockhfcaaAgreeS
import Derived.Test.YthnkpcoockhfcaaToUpdS
import Derived.Test.YthnkpcoockhfcaaSet2
import Derived.Test.YthnkpcoockhfcaaOpenUpds
import Derived.OpenShut
import Derived.ShutString
import Derived.ChangeOld
import Derived.Lib.SmallJoins
namespace Go.Proofs.Ythnkpcoockhfcaa.exAgree
open Go.ChangeShapes Go.WideShapes Go.ChangeAt Go.RowKit
set_option linter.unusedVariables false

set_option maxHeartbeats 2000000 in
theorem walk (av : Option Addr) (n cn : Nat) (us : List M1.Upd) (bv : Option Addr) (m cm : Nat) (vs : List M1.Upd) (w : World) (h1 : IsUpds w av n cn us) (h2 : IsUpds w bv m cm vs) :
    Calls Try.prog 8 #[.slice av n cn, .slice bv m cm] w fun e w' => e = .returned (.bool true) ∧ Below w.heap.size w w' := by
  have hm1 := h1.hcap
  have hm2 := h1.hmost
  have hm3 := h2.hcap
  have hm4 := h2.hmost
  go_enter Try.func8, Try.ntmps8
  go_wp2_with fail
  refine (szUpdateS_any _ _ _ _ _ _ h1 (by omega) (by omega)).mono ?_
  rintro e w0 ⟨⟨r, hn, hr0, hr1, rfl⟩ | rfl, hb0⟩
  · have hn' : n ≤ 1048576 := by omega
    have h1a := h1.below hb0
    have h2a := h2.below hb0
    go_wp2_with fail
    refine (szUpdateS_any _ _ _ _ _ _ h2a (by omega) (by omega)).mono ?_
    rintro e w00 ⟨⟨r', hk, hr0', hr1', rfl⟩ | rfl, hb00⟩
    · have hk' : m ≤ 1048576 := by omega
      have hB0 := hb0.trans (hb00.mono hb0.size)
      go_wp2_with fail
      refine (toUpdateS_any _ _ _ _ _ (h1.below hB0) hn').mono ?_
      rintro e w1 ⟨g1, rfl, hg1, r1, hb1⟩
      have hB1 := hB0.trans (hb1.mono hB0.size)
      have v1 := isUpds_of_row h1.hlen (Nat.le_refl _) (by unfold maxLen; omega) h1.htxt r1
      go_wp2_with fail
      refine (toUpdateS_any _ _ _ _ _ (h2.below hB1) hk').mono ?_
      rintro e w2 ⟨g2, rfl, hg2, r2, hb2⟩
      have hB2 := hB1.trans (hb2.mono hB1.size)
      have v2 := isUpds_of_row h2.hlen (Nat.le_refl _) (by unfold maxLen; omega) h2.htxt r2
      have v1' := v1.below hb2
      clear v1 r1 r2
      go_wp2_with fail
      refine (agree_spec _ _ _ _ _ _ _ _ _ v1' v2).mono ?_
      rintro e w3 ⟨rfl, hb3⟩
      have hB3 := hB2.trans (hb3.mono hB2.size)
      clear v1' v2
      go_wp2_with fail
      refine (toUpdateS_any _ _ _ _ _ (h1.below hB3) hn').mono ?_
      rintro e w4 ⟨g4, rfl, hg4, r4, hb4⟩
      have hB4 := hB3.trans (hb4.mono hB3.size)
      have v4 := isUpds_of_row h1.hlen (Nat.le_refl _) (by unfold maxLen; omega) h1.htxt r4
      go_wp2_with fail
      refine (toUpdateS_any _ _ _ _ _ (h2.below hB4) hk').mono ?_
      rintro e w5 ⟨g5, rfl, hg5, r5, hb5⟩
      have hB5 := hB4.trans (hb5.mono hB4.size)
      have v5 := isUpds_of_row h2.hlen (Nat.le_refl _) (by unfold maxLen; omega) h2.htxt r5
      have v4' := v4.below hb5
      clear v4 r4 r5
      go_wp2_with fail
      refine (agree_impl _ _ _ _ _ _ _ _ _ v4' v5).mono ?_
      rintro e w6 ⟨rfl, hb6⟩
      have hB6 := hB5.trans (hb6.mono hB5.size)
      have u4 := v4'.below hb6
      have u5 := v5.below hb6
      clear v4' v5
      go_wp2_with fail
      refine (toUpdateS_any _ _ _ _ _ (h1.below hB6) hn').mono ?_
      rintro e w7 ⟨g7, rfl, hg7, r7, hb7⟩
      have hB7 := hB6.trans (hb7.mono hB6.size)
      have v7 := isUpds_of_row h1.hlen (Nat.le_refl _) (by unfold maxLen; omega) h1.htxt r7
      go_wp2_with fail
      refine (eqUpdateS_self _ _ _ _ _ _ _ (u4.below hb7) v7).mono ?_
      rintro e w8 ⟨rfl, hb8⟩
      have hB8 := hB7.trans (hb8.mono hB7.size)
      have u5' := (u5.below hb7).below hb8
      clear u4 v7 r7
      go_wp2_with fail
      refine (toUpdateS_any _ _ _ _ _ (h2.below hB8) hk').mono ?_
      rintro e w9 ⟨g9, rfl, hg9, r9, hb9⟩
      have hB9 := hB8.trans (hb9.mono hB8.size)
      have v9 := isUpds_of_row h2.hlen (Nat.le_refl _) (by unfold maxLen; omega) h2.htxt r9
      go_wp2_with fail
      refine (eqUpdateS_self _ _ _ _ _ _ _ (u5'.below hb9) v9).mono ?_
      rintro e wa ⟨rfl, hba⟩
      have hBa := hB9.trans (hba.mono hB9.size)
      go_wp2_with fail
      go_ret
      exact ⟨rfl, hBa⟩
    · go_wp2_with fail
      go_ret
      exact ⟨rfl, hb0.trans (hb00.mono hb0.size)⟩
  · go_wp2_with fail
    go_ret
    exact ⟨rfl, hb0⟩

theorem own : ownKnob Try.prog.godebug = none := by kernel_rfl
theorem laidOut : laidOutB Try.prog = true := by kernel_rfl
set_option maxRecDepth 100000 in
theorem lifted (os : Os) (started : os.Started) (H : Type) (enc : TypeId × Value → H) :
    ReturnsInHanded {} Try.checked os 8 .any (Rows.fnExactAgreeSpec.pre6 enc Try.prog Try.f8 Rows.fnExactAgreeRow.domain false) (Rows.fnExactAgreeSpec.post enc Try.prog Try.f8 false true false false) := by
  refine returnsInHanded_of_change (C := Try.checked) own started (by kernel_rfl) Try.func8
    (ChangeSpec.witness6 (enc := enc) (C := Try.checked) false ⟨#[], #[.slice none 0 0, .slice none 0 0], []⟩ 8 (by kernel_rfl) (by kernel_rfl) (by kernel_rfl) (by kernel_rfl)) ?_
  intro W base args ds gs before hval0 hW hcnd _
  have hval : ∀ (j : Nat) t v, Try.f8.params[j]? = some t → args[j]? = some v → Value.okWide Try.prog W .any base t v := hval0
  have hW' := hW
  obtain ⟨p, q, hA0, hV, rfl, hfz, hnd⟩ := hW
  have hA : DataW.TrodAll enc Try.prog W 0 (fun _ => true) true Try.f8.params.toList args.toList ds p := hA0
  rw [Try.params8] at hA hval
  obtain ⟨v0, vs0, d0, ds0, p0, q0, hargs, rfl, rfl, h0, r0⟩ := trodAll_cons hA
  obtain ⟨v1, vs1, d1, ds1, p1, q1, rfl, rfl, rfl, h1, r1⟩ := trodAll_cons r0
  obtain ⟨rfl, rfl, rfl⟩ := trodAll_nil r1
  obtain rfl : args = #[v0, v1] := by cases args; simp_all
  obtain ⟨rfl, rfl⟩ := trodVars_none hV
  have k0 := h0
  have lt0 : ∀ x ∈ p0, x.block < W.heap.size := by obtain ⟨m, hm⟩ := k0; exact DataW.trod_lt m _ _ _ hm
  have k1 := h1
  have lt1 : ∀ x ∈ p1, x.block < W.heap.size := by obtain ⟨m, hm⟩ := k1; exact DataW.trod_lt m _ _ _ hm
  obtain ⟨a0, l0, c0, rfl⟩ := okWide_slice Try.underlying49 (hval 0 49 v0 rfl rfl)
  obtain ⟨fu0, hf0⟩ := h0
  obtain ⟨us0, vec0⟩ := open_updates hf0
  obtain ⟨a1, l1, c1, rfl⟩ := okWide_slice Try.underlying49 (hval 1 49 v1 rfl rfl)
  obtain ⟨fu1, hf1⟩ := h1
  obtain ⟨us1, vec1⟩ := open_updates hf1
  clear hA0 hval0
  refine (walk a0 l0 c0 us0 a1 l1 c1 us1 W vec0 vec1).mono fun e W' ⟨he, bel⟩ => ?_
  subst he
  exact ⟨_, rfl, _, _, _, [], _, [], hW', trodAll_mk1 (shut_bool Try.underlying4 _), (trodAll_cons_mk (Below.trod laidOut (by kernel_rfl) (of_decide_eq_true (by kernel_rfl)) k0 bel lt0) (trodAll_cons_mk (Below.trod laidOut (by kernel_rfl) (of_decide_eq_true (by kernel_rfl)) k1 bel lt1) trodAll_mk0)), rfl, bel.frame _, fun h => by cases h⟩

theorem over : Rows.fnExactAgreeRow.holds Try.pinned (OpenSpec.ofChange Rows.fnExactAgreeSpec) :=
  OpenClaim.holds_of_wide 8 Try.f8 rfl rfl rfl rfl rfl rfl rfl ⟨rfl, rfl, rfl, rfl, rfl⟩ rfl rfl rfl rfl rfl (by kernel_rfl) Try.func8 (by kernel_rfl)
    (of_decide_eq_true (by kernel_rfl)) (by unfold Func.isWrapper; first | (rw [if_pos (by decide +kernel)]; kernel_rfl) | (rw [if_neg (by decide +kernel)]; exact ⟨rfl, rfl⟩))
    (fun os started H enc _ => lifted os started H enc)

theorem proved : Rows.FnExactAgreeSaid := over
end Go.Proofs.Ythnkpcoockhfcaa.exAgree
namespace Go.Proofs.Ythnkpcoockhfcaa
theorem fnExactAgree_holds : Rows.FnExactAgreeSaid := exAgree.proved
end Go.Proofs.Ythnkpcoockhfcaa
