/-
  For every slice of updates the law FnExactLongest answers true: Longest of the program answers as the model's does, writes into no argument, and its answer is memory of its own, behind another call too; the argument reads as it did. No condition.
-/
import Derived.Test.YtdpeopmbboogaaaZLongest50
import Derived.Test.YtdpeopmbboogaaaZLongest33
import Derived.Test.YtdpeopmbboogaaaZLongest07
import Derived.Test.YtdpeopmbboogaaaZLongest05
import Derived.Test.YtdpeopmbboogaaaZLongest24
import Derived.Test.YtdpeopmbboogaaaZLongest51
import Derived.OpenShut
import Derived.ShutString
import Derived.ChangeOld
import Derived.Lib.SmallJoins
namespace Go.Proofs.Ytdpeopmbboogaaa.exLongest
open Go.ChangeShapes Go.WideShapes Go.ChangeAt Go.RowKit
set_option linter.unusedVariables false

set_option maxHeartbeats 8000000 in
set_option maxRecDepth 100000 in
theorem walk (av : Option Addr) (n cn : Nat) (us : List M1.Upd) (tr : Int) (w : World) (h1 : IsUpds w av n cn us) :
    Calls Try.prog 6 #[.slice av n cn, .int .i64 tr] w fun e w' => e = .returned (.bool true) ∧ Below w.heap.size w w' := by
  have hm1 := h1.hcap
  have hm2 := h1.hmost
  have hl := h1.hlen
  have ht := h1.htxt
  have hJ := M1.lngs_len us tr
  rw [hl] at hJ
  obtain ⟨J, HJ⟩ : ∃ J, Hid (M1.lngs us tr = J) := ⟨_, rfl⟩
  rw [HJ.out] at hJ
  obtain ⟨q, hqq⟩ : ∃ q, Hid (J.length = q) := ⟨_, rfl⟩
  rw [hqq.out] at hJ
  go_enter Try.func6, Try.ntmps6
  go_wp2_with fail
  refine (szUpdateS_any _ _ _ _ _ _ h1 (by omega) (by omega)).mono ?_
  rintro e w1 ⟨⟨r, hn, hr0, hr1, rfl⟩ | rfl, hb1⟩
  · have hn' : n ≤ 1048576 := by omega
    have HL : Hid (us.length = n) := hl
    have HT : Hid (∀ i, i < n → (M1.up us i).s.size ≤ maxLen) := ht
    clear hl ht
    go_wp2_with fail
    refine (toUpdateS_any _ _ _ _ _ (h1.below hb1) hn').mono ?_
    rintro e w2 ⟨g2, rfl, hg2, r2, hb2⟩
    have hB2 := hb1.trans (hb2.mono hb1.size)
    have v2 := isUpds_of_row HL.out (Nat.le_refl _) (by unfold maxLen; omega) HT.out r2
    go_wp2_with fail
    have js := longest_spec _ _ _ _ tr _ v2
    rw [HJ.out] at js
    refine js.mono ?_
    clear js
    rintro e w3 ⟨⟨aW, cW, rfl, W3⟩, hb3⟩
    rw [hqq.out] at W3 ⊢
    have hB3 := hB2.trans (hb3.mono hB2.size)
    clear v2 r2
    have hs1 := hb1.size
    have hs2 := hb2.size
    have hs3 := hb3.size
    go_wp2_with fail
    refine (toUpdateS_any _ _ _ _ _ (h1.below hB3) hn').mono ?_
    rintro e w4 ⟨g4, rfl, hg4, r4, hb4⟩
    have hB4 := hB3.trans (hb4.mono hB3.size)
    have W4 := W3.below hb4
    have l4 := r4.lt
    have hs4 := hb4.size
    clear W3
    go_wp2_with fail
    have js := longest_impl _ _ _ _ tr _ (isUpds_of_row HL.out (Nat.le_refl _) (by unfold maxLen; omega) HT.out r4)
    rw [HJ.out] at js
    refine js.mono ?_
    clear js
    rintro e w5 ⟨⟨aG, cG, rfl, G5⟩, hb5⟩
    rw [hqq.out] at G5 ⊢
    have hB5 := hB4.trans (hb5.mono hB4.size)
    have W5 := W4.below hb5
    have r5 := r4.below hb5
    have hs5 := hb5.size
    clear W4 r4
    go_wp2_with fail
    refine (eqI_same _ _ _ _ _ _ _ _ _ _ _ G5 W5).mono ?_
    rintro e w6 ⟨rfl, hb6⟩
    have hB6 := hB5.trans (hb6.mono hB5.size)
    have W6 := W5.below hb6
    have G6 := G5.below hb6
    have r6 := r5.below hb6
    have hs6 := hb6.size
    clear W5 G5 r5
    go_wp2_with fail
    refine (toUpdateS_any _ _ _ _ _ (h1.below hB6) hn').mono ?_
    rintro e w7 ⟨g7, rfl, hg7, r7, hb7⟩
    have hB7 := hB6.trans (hb7.mono hB6.size)
    have W7 := W6.below hb7
    have G7 := G6.below hb7
    have x7 := r6.below hb7
    have hs7 := hb7.size
    clear W6 G6 r6
    go_wp2_with fail
    refine (eqUpdateS_self _ _ _ _ _ _ _ (isUpds_of_row HL.out (Nat.le_refl _) (by unfold maxLen; omega) HT.out x7) (isUpds_of_row HL.out (Nat.le_refl _) (by unfold maxLen; omega) HT.out r7)).mono ?_
    rintro e w8 ⟨rfl, hb8⟩
    have hB8 := hB7.trans (hb8.mono hB7.size)
    have W8 := W7.below hb8
    have G8 := G7.below hb8
    have x8 := x7.below hb8
    have hs8 := hb8.size
    clear W7 G7 x7 r7
    go_wp2_with fail
    refine (markU_some _ _ _ _ 1 _ x8 (Nat.le_refl _) (by unfold maxLen; omega) hn' (by omega) (by omega)).mono ?_
    rintro e w9 ⟨rfl, x9, hG9⟩
    have W9 := W8.off hG9 (by omega)
    have G9 := G8.off hG9 (by omega)
    have hB9 := hB8.trans (gr_to hG9 hB8.size (by omega))
    have hs9 := hG9.size
    clear W8 G8 x8 x9 hG9
    have e9 : ¬ (1 + 13 * (n : Int)) < 0 := by omega
    go_wp2_with fail
    refine (eqI_same _ _ _ _ _ _ _ _ _ _ _ G9 W9).mono ?_
    rintro e w10 ⟨rfl, hb10⟩
    have hB10 := hB9.trans (hb10.mono hB9.size)
    have W10 := W9.below hb10
    have G10 := G9.below hb10
    have hs10 := hb10.size
    clear W9 G9
    go_wp2_with fail
    refine (markI_any _ _ _ _ _ _ 1 _ G10 (by omega) (by omega) (by omega)).mono ?_
    rintro e w11 ⟨rfl, G11, mk11⟩
    have W11 := W10.mk G10 mk11 (by omega)
    have hB11 := hB10.trans (MI.mkBelow G10 mk11 hB10.size (by omega))
    have hs11 := (MI.mkBelow (B := w.heap.size) G10 mk11 hB10.size (by omega)).size
    clear W10 G10 mk11
    go_wp2_with fail
    refine (heldI_any _ _ _ _ _ 1 _ G11 (by omega) (by omega) (by omega)).mono ?_
    rintro e wh ⟨rfl, hwh⟩
    replace W11 := W11.below hwh
    replace G11 := G11.below hwh
    replace hB11 := hB11.trans (hwh.mono hB11.size)
    have hsh := hwh.size
    have eh : ¬ (1 : Int) + (q : Int) < 0 := by omega
    clear hwh
    go_wp2_with fail
    refine (toUpdateS_any _ _ _ _ _ (h1.below hB11) hn').mono ?_
    rintro e w12 ⟨g12, rfl, hg12, r12, hb12⟩
    have hB12 := hB11.trans (hb12.mono hB11.size)
    have W12 := W11.below hb12
    have G12 := G11.below hb12
    have hs12 := hb12.size
    clear W11 G11
    go_wp2_with fail
    have js := longest_impl _ _ _ _ tr _ (isUpds_of_row HL.out (Nat.le_refl _) (by unfold maxLen; omega) HT.out r12)
    rw [HJ.out] at js
    refine js.mono ?_
    clear js
    rintro e w13 ⟨⟨aH, cH, rfl, H13⟩, hb13⟩
    rw [hqq.out] at H13 ⊢
    have hB13 := hB12.trans (hb13.mono hB12.size)
    have W13 := W12.below hb13
    have G13 := G12.below hb13
    clear W12 G12 r12
    go_wp2_with fail
    refine (eqI_same _ _ _ _ _ _ _ _ _ _ _ H13 W13).mono ?_
    rintro e w14 ⟨rfl, hb14⟩
    have hB14 := hB13.trans (hb14.mono hB13.size)
    have G14 := G13.below hb14
    clear W13 G13 H13
    go_wp2_with fail
    refine (heldI_any _ _ _ _ _ 1 _ G14 (by omega) (by omega) (by omega)).mono ?_
    rintro e wh ⟨rfl, hwh⟩
    have hB15 := hB14.trans (hwh.mono hB14.size)
    go_wp2_with fail
    go_ret
    exact ⟨rfl, hB15⟩
  · go_wp2_with fail
    go_ret
    exact ⟨rfl, hb1⟩

theorem own : ownKnob Try.prog.godebug = none := by kernel_rfl
theorem laidOut : laidOutB Try.prog = true := by kernel_rfl
set_option maxRecDepth 100000 in
theorem lifted (os : Os) (started : os.Started) (H : Type) (enc : TypeId × Value → H) :
    ReturnsInHanded {} Try.checked os 6 .any (Rows.fnExactLongestSpec.pre6 enc Try.prog Try.f6 Rows.fnExactLongestRow.domain false) (Rows.fnExactLongestSpec.post enc Try.prog Try.f6 false true false false) := by
  refine returnsInHanded_of_change (C := Try.checked) own started (by kernel_rfl) Try.func6
    (ChangeSpec.witness6 (enc := enc) (C := Try.checked) false ⟨#[], #[.slice none 0 0, .int .i64 0], []⟩ 8 (by kernel_rfl) (by kernel_rfl) (by kernel_rfl) (by kernel_rfl)) ?_
  intro W base args ds gs before hval0 hW hcnd _
  have hval : ∀ (j : Nat) t v, Try.f6.params[j]? = some t → args[j]? = some v → Value.okWide Try.prog W .any base t v := hval0
  have hW' := hW
  obtain ⟨p, q, hA0, hV, rfl, hfz, hnd⟩ := hW
  have hA : DataW.TrodAll enc Try.prog W 0 (fun _ => true) true Try.f6.params.toList args.toList ds p := hA0
  rw [Try.params6] at hA hval
  obtain ⟨v0, vs0, d0, ds0, p0, q0, hargs, rfl, rfl, h0, r0⟩ := trodAll_cons hA
  obtain ⟨v1, vs1, d1, ds1, p1, q1, rfl, rfl, rfl, h1, r1⟩ := trodAll_cons r0
  obtain ⟨rfl, rfl, rfl⟩ := trodAll_nil r1
  obtain rfl : args = #[v0, v1] := by cases args; simp_all
  obtain ⟨rfl, rfl⟩ := trodVars_none hV
  have k0 := h0
  have lt0 : ∀ x ∈ p0, x.block < W.heap.size := by obtain ⟨m, hm⟩ := k0; exact DataW.trod_lt m _ _ _ hm
  have k1 := h1
  have lt1 : ∀ x ∈ p1, x.block < W.heap.size := by obtain ⟨m, hm⟩ := k1; exact DataW.trod_lt m _ _ _ hm
  obtain ⟨a0, l0, c0, rfl⟩ := okWide_slice Try.underlying40 (hval 0 40 v0 rfl rfl)
  obtain ⟨fu0, hf0⟩ := h0
  obtain ⟨us0, vec0⟩ := open_updates hf0
  obtain ⟨a1, rfl, rfl, rfl, wfa1⟩ := open_int Try.underlying2 (hval 1 2 v1 rfl rfl) h1
  clear hA0 hval0
  refine (walk a0 l0 c0 us0 a1 W vec0).mono fun e W' ⟨he, bel⟩ => ?_
  subst he
  exact ⟨_, rfl, _, _, _, [], _, [], hW', trodAll_mk1 (shut_bool Try.underlying4 _), (trodAll_cons_mk (Below.trod laidOut (by kernel_rfl) (of_decide_eq_true (by kernel_rfl)) k0 bel lt0) (trodAll_cons_mk (Below.trod laidOut (by kernel_rfl) (of_decide_eq_true (by kernel_rfl)) k1 bel lt1) trodAll_mk0)), rfl, bel.frame _, fun h => by cases h⟩

theorem over : Rows.fnExactLongestRow.holds Try.pinned (OpenSpec.ofChange Rows.fnExactLongestSpec) :=
  OpenClaim.holds_of_wide 6 Try.f6 rfl rfl rfl rfl rfl rfl rfl ⟨rfl, rfl, rfl, rfl, rfl⟩ rfl rfl rfl rfl rfl (by kernel_rfl) Try.func6 (by kernel_rfl)
    (of_decide_eq_true (by kernel_rfl)) (by unfold Func.isWrapper; first | (rw [if_pos (by decide +kernel)]; kernel_rfl) | (rw [if_neg (by decide +kernel)]; exact ⟨rfl, rfl⟩))
    (fun os started H enc _ => lifted os started H enc)

theorem proved : Rows.FnExactLongestSaid := over
end Go.Proofs.Ytdpeopmbboogaaa.exLongest
namespace Go.Proofs.Ytdpeopmbboogaaa
theorem fnExactLongest_holds : Rows.FnExactLongestSaid := exLongest.proved
end Go.Proofs.Ytdpeopmbboogaaa
