/-
  For every slice of updates, every slice of dots and every number the law FnExactSince answers true: Since of the program answers as the model's does, writes into no argument, and its answer is memory of its own, behind another call too; the arguments read as they did. No condition.
-/
import Derived.Test.YthnkpcoockhfcaaSinceI
import Derived.Test.YthnkpcoockhfcaaMark
import Derived.Test.YthnkpcoockhfcaaSet2
import Derived.Test.YthnkpcoockhfcaaSz
import Derived.Test.YthnkpcoockhfcaaOpenUpds
import Derived.Test.YthnkpcoockhfcaaOpenDots
import Derived.OpenShut
import Derived.ShutString
import Derived.ChangeOld
import Derived.Lib.SmallJoins
namespace Go.Proofs.Ythnkpcoockhfcaa
open Go.ChangeShapes Go.WideShapes Go.ChangeAt Go.RowKit
theorem MV.off' {w w' : World} {av : Option Addr} {n cap lo hi g : Nat} {f : Nat → Value} (h : MV w av n cap lo hi f) (hg : Gr g w w') (hb : g < lo ∨ hi ≤ g) : MV w' av n cap lo hi f :=
  ⟨h.1, h.2.1, h.2.2.imp id fun ⟨k, e, h1, h2, r⟩ => ⟨k, e, h1, h2, r.gr hg (by omega)⟩⟩
theorem MU.mkV {w w' : World} {av bv : Option Addr} {n cap lo hi m cm lo2 hi2 : Nat} {f f2 : Nat → Value} (h : MU w av n cap lo hi f) (h2 : MV w bv m cm lo2 hi2 f2) (hm : Mk bv w w') (hd : hi ≤ lo2 ∨ hi2 ≤ lo) : MU w' av n cap lo hi f := by
  rcases h2.2.2 with ⟨_, h0⟩ | ⟨g2, e2, h5, h6, _⟩
  · exact h.below (hm.1 h0)
  · exact h.off (hm.2 g2 e2) (by omega)
end Go.Proofs.Ythnkpcoockhfcaa
namespace Go.Proofs.Ythnkpcoockhfcaa.exSince
open Go.ChangeShapes Go.WideShapes Go.ChangeAt Go.RowKit
set_option linter.unusedVariables false

set_option maxHeartbeats 16000000 in
set_option maxRecDepth 100000 in
theorem walk (av : Option Addr) (n cn : Nat) (us : List M1.Upd) (bv : Option Addr) (m cm : Nat) (ds : List (Int × Int)) (most : Int) (w : World) (h1 : IsUpds w av n cn us) (h2 : IsVec w bv m cm ds) :
    Calls Try.prog 7 #[.slice av n cn, .slice bv m cm, .int .i64 most] w fun e w' => e = .returned (.bool true) ∧ Below w.heap.size w w' := by
  have hm1 := h1.hcap
  have hm2 := h1.hmost
  have hm3 := h2.hcap
  have hm4 := h2.hmost
  have HL : Hid (us.length = n) := h1.hlen
  have HV : Hid (ds.length = m) := h2.hlen
  have HT : Hid (∀ i, i < n → (M1.up us i).s.size ≤ maxLen) := h1.htxt
  have hN0 := M1.sinceL_len us ds most
  have HTN0 : Hid (∀ i, i < (M1.sinceL us ds most).length → (M1.up (M1.sinceL us ds most) i).s.size ≤ maxLen) := M1.sinceL_txt (fun i hi => HT.out i (by have := HL.out; omega))
  obtain ⟨N, hNe⟩ : ∃ N, M1.sinceL us ds most = N := ⟨_, rfl⟩
  obtain ⟨K, hKe⟩ : ∃ K, M1.sinceOk us ds most = K := ⟨_, rfl⟩
  have HN : Hid (M1.sinceL us ds most = N) := hNe
  have HK : Hid (M1.sinceOk us ds most = K) := hKe
  have HTN : Hid (∀ i, i < N.length → (M1.up N i).s.size ≤ maxLen) := by rw [hNe] at HTN0; exact HTN0
  rw [hNe] at hN0
  have hNn : N.length ≤ n := by have := HL.out; omega
  clear hNe hKe hN0 HTN0
  go_enter Try.func7, Try.ntmps7
  go_wp2_with fail
  refine (szUpdateS_any _ _ _ _ _ _ h1 (by omega) (by omega)).mono ?_
  rintro e w1 ⟨⟨r, hn, hr0, hr1, rfl⟩ | rfl, hB1⟩
  · have hn' : n ≤ 1048576 := by omega
    have hN' : N.length ≤ 1048576 := by omega
    have hs1 := hB1.size
    go_wp2_with fail
    by_cases hk : (m : Int) ≤ r
    · refine (szDotS_yes _ _ _ _ _ hm3 hm4 hr0 hr1 hk).mono ?_
      rintro e wz ⟨rfl, hwz⟩
      subst hwz
      have hk' : m ≤ 1048576 := by omega
      go_wp2_with fail
      refine (toUpdateS_any _ _ _ _ _ (h1.below hB1) hn').mono ?_
      rintro e w2 ⟨g2, rfl, hg2, r2, hb⟩
      have hB2 := hB1.trans (hb.mono hB1.size)
      have hs2 := hb.size
      clear hb
      have l2 := r2.lt
      have A_2 := r2
      clear r2
      go_wp2_with fail
      refine (toDotS_any _ _ _ _ _ (h2.below hB2) hk').mono ?_
      rintro e w3 ⟨g3, rfl, hg3, r3, hb⟩
      have hB3 := hB2.trans (hb.mono hB2.size)
      have hs3 := hb.size
      have A_3 := A_2.below hb
      clear A_2
      clear hb
      have B_3 : MV w3 (some ⟨g3, 0, none⟩) m m w2.heap.size w3.heap.size (dcell ds) := ⟨Nat.le_refl _, by unfold maxLen; omega, Or.inr ⟨g3, rfl, hg3, r3.lt, r3⟩⟩
      clear r3
      go_wp2_with fail
      have js := since_spec _ _ _ _ _ _ _ _ most _ (isUpds_of_row HL.out (Nat.le_refl _) (by unfold maxLen; omega) HT.out A_3) (B_3.vec HV.out)
      rw [HN.out, HK.out] at js
      refine js.mono ?_
      clear js
      rintro e w4 ⟨⟨v, rfl, own⟩, hb⟩
      obtain ⟨aW, cW, rfl, W_4⟩ := MU.of_owns own
      clear own
      have hB4 := hB3.trans (hb.mono hB3.size)
      have hs4 := hb.size
      have A_4 := A_3.below hb
      clear A_3
      have B_4 := B_3.below hb
      clear B_3
      clear hb
      go_wp2_with fail
      clear A_4
      clear B_4
      refine (toUpdateS_any _ _ _ _ _ (h1.below hB4) hn').mono ?_
      rintro e w5 ⟨g5, rfl, hg5, r5, hb⟩
      have hB5 := hB4.trans (hb.mono hB4.size)
      have hs5 := hb.size
      have W_5 := W_4.below hb
      clear W_4
      clear hb
      have l5 := r5.lt
      have X_5 := r5
      clear r5
      go_wp2_with fail
      refine (toDotS_any _ _ _ _ _ (h2.below hB5) hk').mono ?_
      rintro e w6 ⟨g6, rfl, hg6, r6, hb⟩
      have hB6 := hB5.trans (hb.mono hB5.size)
      have hs6 := hb.size
      have W_6 := W_5.below hb
      clear W_5
      have X_6 := X_5.below hb
      clear X_5
      clear hb
      have Y_6 : MV w6 (some ⟨g6, 0, none⟩) m m w5.heap.size w6.heap.size (dcell ds) := ⟨Nat.le_refl _, by unfold maxLen; omega, Or.inr ⟨g6, rfl, hg6, r6.lt, r6⟩⟩
      clear r6
      go_wp2_with fail
      have js := since_impl _ _ _ _ _ _ _ _ most _ (isUpds_of_row HL.out (Nat.le_refl _) (by unfold maxLen; omega) HT.out X_6) (Y_6.vec HV.out)
      rw [HN.out, HK.out] at js
      refine js.mono ?_
      clear js
      rintro e w7 ⟨⟨v, rfl, own⟩, hb⟩
      obtain ⟨aG, cG, rfl, G_7⟩ := MU.of_owns own
      clear own
      have hB7 := hB6.trans (hb.mono hB6.size)
      have hs7 := hb.size
      have W_7 := W_6.below hb
      clear W_6
      have X_7 := X_6.below hb
      clear X_6
      have Y_7 := Y_6.below hb
      clear Y_6
      clear hb
      go_wp2_with fail
      refine (eqUpdateS_self _ _ _ _ _ _ _ (G_7.upds rfl HTN.out) (W_7.upds rfl HTN.out)).mono ?_
      rintro e w8 ⟨rfl, hb⟩
      have hB8 := hB7.trans (hb.mono hB7.size)
      have hs8 := hb.size
      have W_8 := W_7.below hb
      clear W_7
      have X_8 := X_7.below hb
      clear X_7
      have Y_8 := Y_7.below hb
      clear Y_7
      have G_8 := G_7.below hb
      clear G_7
      clear hb
      go_wp2_with fail
      refine (toUpdateS_any _ _ _ _ _ (h1.below hB8) hn').mono ?_
      rintro e w9 ⟨g9, rfl, hg9, r9, hb⟩
      have hB9 := hB8.trans (hb.mono hB8.size)
      have hs9 := hb.size
      have W_9 := W_8.below hb
      clear W_8
      have X_9 := X_8.below hb
      clear X_8
      have Y_9 := Y_8.below hb
      clear Y_8
      have G_9 := G_8.below hb
      clear G_8
      clear hb
      have l9 := r9.lt
      have P_9 := r9
      clear r9
      go_wp2_with fail
      refine (eqUpdateS_self _ _ _ _ _ _ _ (isUpds_of_row HL.out (Nat.le_refl _) (by unfold maxLen; omega) HT.out X_9) (isUpds_of_row HL.out (Nat.le_refl _) (by unfold maxLen; omega) HT.out P_9)).mono ?_
      rintro e w10 ⟨rfl, hb⟩
      have hB10 := hB9.trans (hb.mono hB9.size)
      have hs10 := hb.size
      have W_10 := W_9.below hb
      clear W_9
      have X_10 := X_9.below hb
      clear X_9
      have Y_10 := Y_9.below hb
      clear Y_9
      have G_10 := G_9.below hb
      clear G_9
      have P_10 := P_9.below hb
      clear P_9
      clear hb
      go_wp2_with fail
      clear P_10
      refine (toDotS_any _ _ _ _ _ (h2.below hB10) hk').mono ?_
      rintro e w11 ⟨g11, rfl, hg11, r11, hb⟩
      have hB11 := hB10.trans (hb.mono hB10.size)
      have hs11 := hb.size
      have W_11 := W_10.below hb
      clear W_10
      have X_11 := X_10.below hb
      clear X_10
      have Y_11 := Y_10.below hb
      clear Y_10
      have G_11 := G_10.below hb
      clear G_10
      clear hb
      have P_11 : MV w11 (some ⟨g11, 0, none⟩) m m w10.heap.size w11.heap.size (dcell ds) := ⟨Nat.le_refl _, by unfold maxLen; omega, Or.inr ⟨g11, rfl, hg11, r11.lt, r11⟩⟩
      clear r11
      go_wp2_with fail
      refine (eqDotS_same _ _ _ _ _ _ _ _ (Y_11.vec HV.out) (P_11.vec HV.out)).mono ?_
      rw [decide_eq_true (rfl : ds = ds)]
      rintro e w12 ⟨rfl, hb⟩
      have hB12 := hB11.trans (hb.mono hB11.size)
      have hs12 := hb.size
      have W_12 := W_11.below hb
      clear W_11
      have X_12 := X_11.below hb
      clear X_11
      have Y_12 := Y_11.below hb
      clear Y_11
      have G_12 := G_11.below hb
      clear G_11
      have P_12 := P_11.below hb
      clear P_11
      clear hb
      go_wp2_with fail
      clear P_12
      refine (markU_some _ _ _ _ 1 _ X_12 (Nat.le_refl _) (by unfold maxLen; omega) hn' (by omega) (by omega)).mono ?_
      rintro e w13 ⟨rfl, xm, hG⟩
      clear xm
      have hB13 := hB12.trans (gr_to hG hB12.size (by omega))
      have hs13 := hG.size
      clear X_12
      have W_13 := W_12.off hG (by omega)
      clear W_12
      have Y_13 := MV.off' Y_12 hG (by omega)
      clear Y_12
      have G_13 := G_12.off hG (by omega)
      clear G_12
      clear hG
      go_wp2_with fail
      refine (mark_any _ _ _ _ _ _ (1 + 13 * (n : Int)) _ Y_13 hk' (by omega) (by omega)).mono ?_
      rintro e w14 ⟨rfl, ym, mk⟩
      clear ym
      have hkb := Mk.below (B := w.heap.size) Y_13 mk hB13.size (by omega)
      have hB14 := hB13.trans hkb
      have hs14 := hkb.size
      clear hkb
      have W_14 := MU.mkV W_13 Y_13 mk (by omega)
      clear W_13
      have G_14 := MU.mkV G_13 Y_13 mk (by omega)
      clear G_13
      clear mk Y_13
      have ek : ¬ (1 + 13 * (n : Int) + 2 * (m : Int)) < 0 := by omega
      go_wp2_with fail
      refine (eqUpdateS_self _ _ _ _ _ _ _ (G_14.upds rfl HTN.out) (W_14.upds rfl HTN.out)).mono ?_
      rintro e w15 ⟨rfl, hb⟩
      have hB15 := hB14.trans (hb.mono hB14.size)
      have hs15 := hb.size
      have W_15 := W_14.below hb
      clear W_14
      have G_15 := G_14.below hb
      clear G_14
      clear hb
      go_wp2_with fail
      refine (markU_any _ _ _ _ _ _ 1 _ G_15 hN' (by omega) (by omega)).mono ?_
      rintro e w16 ⟨rfl, gm, mk⟩
      have hkb := MkU.below (B := w.heap.size) G_15 mk hB15.size (by omega)
      have hB16 := hB15.trans hkb
      have hs16 := hkb.size
      clear hkb
      have W_16 := MU.mk W_15 G_15 mk (by omega)
      clear W_15
      have G_16 := gm
      clear mk gm G_15
      go_wp2_with fail
      refine (heldU_any _ _ _ _ _ 1 _ G_16 hN' (by omega) (by omega)).mono ?_
      rintro e w17 ⟨rfl, hb⟩
      have hB17 := hB16.trans (hb.mono hB16.size)
      have hs17 := hb.size
      have W_17 := W_16.below hb
      clear W_16
      have G_17 := G_16.below hb
      clear G_16
      clear hb
      go_wp2_with fail
      refine (toUpdateS_any _ _ _ _ _ (h1.below hB17) hn').mono ?_
      rintro e w18 ⟨g18, rfl, hg18, r18, hb⟩
      have hB18 := hB17.trans (hb.mono hB17.size)
      have hs18 := hb.size
      have W_18 := W_17.below hb
      clear W_17
      have G_18 := G_17.below hb
      clear G_17
      clear hb
      have l18 := r18.lt
      have A_18 := r18
      clear r18
      go_wp2_with fail
      refine (toDotS_any _ _ _ _ _ (h2.below hB18) hk').mono ?_
      rintro e w19 ⟨g19, rfl, hg19, r19, hb⟩
      have hB19 := hB18.trans (hb.mono hB18.size)
      have hs19 := hb.size
      have W_19 := W_18.below hb
      clear W_18
      have G_19 := G_18.below hb
      clear G_18
      have A_19 := A_18.below hb
      clear A_18
      clear hb
      have B_19 : MV w19 (some ⟨g19, 0, none⟩) m m w18.heap.size w19.heap.size (dcell ds) := ⟨Nat.le_refl _, by unfold maxLen; omega, Or.inr ⟨g19, rfl, hg19, r19.lt, r19⟩⟩
      clear r19
      go_wp2_with fail
      have js := since_impl _ _ _ _ _ _ _ _ most _ (isUpds_of_row HL.out (Nat.le_refl _) (by unfold maxLen; omega) HT.out A_19) (B_19.vec HV.out)
      rw [HN.out, HK.out] at js
      refine js.mono ?_
      clear js
      rintro e w20 ⟨⟨v, rfl, own⟩, hb⟩
      obtain ⟨aH, cH, rfl, H_20⟩ := MU.of_owns own
      clear own
      have hB20 := hB19.trans (hb.mono hB19.size)
      have hs20 := hb.size
      have W_20 := W_19.below hb
      clear W_19
      have G_20 := G_19.below hb
      clear G_19
      have A_20 := A_19.below hb
      clear A_19
      have B_20 := B_19.below hb
      clear B_19
      clear hb
      go_wp2_with fail
      clear A_20
      clear B_20
      refine (eqUpdateS_self _ _ _ _ _ _ _ (H_20.upds rfl HTN.out) (W_20.upds rfl HTN.out)).mono ?_
      rintro e w21 ⟨rfl, hb⟩
      have hB21 := hB20.trans (hb.mono hB20.size)
      have hs21 := hb.size
      have W_21 := W_20.below hb
      clear W_20
      have G_21 := G_20.below hb
      clear G_20
      have H_21 := H_20.below hb
      clear H_20
      clear hb
      go_wp2_with fail
      clear H_21
      clear W_21
      refine (heldU_any _ _ _ _ _ 1 _ G_21 hN' (by omega) (by omega)).mono ?_
      rintro e w22 ⟨rfl, hb⟩
      have hB22 := hB21.trans (hb.mono hB21.size)
      have hs22 := hb.size
      have G_22 := G_21.below hb
      clear G_21
      clear hb
      go_wp2_with fail
      go_ret
      exact ⟨rfl, hB22⟩
    · refine (szDotS_no _ _ _ _ _ hm3 hm4 hr0 hr1 (by omega)).mono ?_
      rintro e wz ⟨rfl, hwz⟩
      subst hwz
      go_wp2_with fail
      go_ret
      exact ⟨rfl, hB1⟩
  · go_wp2_with fail
    go_ret
    exact ⟨rfl, hB1⟩

theorem own : ownKnob Try.prog.godebug = none := by kernel_rfl
theorem laidOut : laidOutB Try.prog = true := by kernel_rfl
set_option maxRecDepth 100000 in
theorem lifted (os : Os) (started : os.Started) (H : Type) (enc : TypeId × Value → H) :
    ReturnsInHanded {} Try.checked os 7 .any (Rows.fnExactSinceSpec.pre6 enc Try.prog Try.f7 Rows.fnExactSinceRow.domain false) (Rows.fnExactSinceSpec.post enc Try.prog Try.f7 false true false false) := by
  refine returnsInHanded_of_change (C := Try.checked) own started (by kernel_rfl) Try.func7
    (ChangeSpec.witness6 (enc := enc) (C := Try.checked) false ⟨#[], #[.slice none 0 0, .slice none 0 0, .int .i64 0], []⟩ 8 (by kernel_rfl) (by kernel_rfl) (by kernel_rfl) (by kernel_rfl)) ?_
  intro W base args ds gs before hval0 hW hcnd _
  have hval : ∀ (j : Nat) t v, Try.f7.params[j]? = some t → args[j]? = some v → Value.okWide Try.prog W .any base t v := hval0
  have hW' := hW
  obtain ⟨p, q, hA0, hV, rfl, hfz, hnd⟩ := hW
  have hA : DataW.TrodAll enc Try.prog W 0 (fun _ => true) true Try.f7.params.toList args.toList ds p := hA0
  rw [Try.params7] at hA hval
  obtain ⟨v0, vs0, d0, ds0, p0, q0, hargs, rfl, rfl, h0, r0⟩ := trodAll_cons hA
  obtain ⟨v1, vs1, d1, ds1, p1, q1, rfl, rfl, rfl, h1, r1⟩ := trodAll_cons r0
  obtain ⟨v2, vs2, d2, ds2, p2, q2, rfl, rfl, rfl, h2, r2⟩ := trodAll_cons r1
  obtain ⟨rfl, rfl, rfl⟩ := trodAll_nil r2
  obtain rfl : args = #[v0, v1, v2] := by cases args; simp_all
  obtain ⟨rfl, rfl⟩ := trodVars_none hV
  have k0 := h0
  have lt0 : ∀ x ∈ p0, x.block < W.heap.size := by obtain ⟨m, hm⟩ := k0; exact DataW.trod_lt m _ _ _ hm
  have k1 := h1
  have lt1 : ∀ x ∈ p1, x.block < W.heap.size := by obtain ⟨m, hm⟩ := k1; exact DataW.trod_lt m _ _ _ hm
  have k2 := h2
  have lt2 : ∀ x ∈ p2, x.block < W.heap.size := by obtain ⟨m, hm⟩ := k2; exact DataW.trod_lt m _ _ _ hm
  obtain ⟨a0, l0, c0, rfl⟩ := okWide_slice Try.underlying49 (hval 0 49 v0 rfl rfl)
  obtain ⟨fu0, hf0⟩ := h0
  obtain ⟨us0, vec0⟩ := open_updates hf0
  obtain ⟨a1, l1, c1, rfl⟩ := okWide_slice Try.underlying55 (hval 1 55 v1 rfl rfl)
  obtain ⟨fu1, hf1⟩ := h1
  obtain ⟨ds1, vec1⟩ := open_dots hf1
  obtain ⟨a2, rfl, rfl, rfl, wfa2⟩ := open_int Try.underlying2 (hval 2 2 v2 rfl rfl) h2
  clear hA0 hval0
  refine (walk a0 l0 c0 us0 a1 l1 c1 ds1 a2 W vec0 vec1).mono fun e W' ⟨he, bel⟩ => ?_
  subst he
  exact ⟨_, rfl, _, _, _, [], _, [], hW', trodAll_mk1 (shut_bool Try.underlying4 _), (trodAll_cons_mk (Below.trod laidOut (by kernel_rfl) (of_decide_eq_true (by kernel_rfl)) k0 bel lt0) (trodAll_cons_mk (Below.trod laidOut (by kernel_rfl) (of_decide_eq_true (by kernel_rfl)) k1 bel lt1) (trodAll_cons_mk (Below.trod laidOut (by kernel_rfl) (of_decide_eq_true (by kernel_rfl)) k2 bel lt2) trodAll_mk0))), rfl, bel.frame _, fun h => by cases h⟩

theorem over : Rows.fnExactSinceRow.holds Try.pinned (OpenSpec.ofChange Rows.fnExactSinceSpec) :=
  OpenClaim.holds_of_wide 7 Try.f7 rfl rfl rfl rfl rfl rfl rfl ⟨rfl, rfl, rfl, rfl, rfl⟩ rfl rfl rfl rfl rfl (by kernel_rfl) Try.func7 (by kernel_rfl)
    (of_decide_eq_true (by kernel_rfl)) (by unfold Func.isWrapper; first | (rw [if_pos (by decide +kernel)]; kernel_rfl) | (rw [if_neg (by decide +kernel)]; exact ⟨rfl, rfl⟩))
    (fun os started H enc _ => lifted os started H enc)

theorem proved : Rows.FnExactSinceSaid := over
end Go.Proofs.Ythnkpcoockhfcaa.exSince
namespace Go.Proofs.Ythnkpcoockhfcaa
theorem fnExactSince_holds : Rows.FnExactSinceSaid := exSince.proved
end Go.Proofs.Ythnkpcoockhfcaa
