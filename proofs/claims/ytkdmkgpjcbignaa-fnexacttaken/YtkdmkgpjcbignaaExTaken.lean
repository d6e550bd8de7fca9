/-
  For every two slices of updates the law FnExactTaken answers true: Taken of the program answers as the model's does, writes into no argument, and its answer is memory of its own, behind another call too; the arguments read as they did. No condition.
-/
import Derived.Test.YtkdmkgpjcbignaaTkT
import Derived.Test.YtkdmkgpjcbignaaSet2
import Derived.Test.YtkdmkgpjcbignaaOpenUpds
import Derived.OpenShut
import Derived.ShutString
import Derived.ChangeOld
import Derived.Lib.SmallJoins
namespace Go.Proofs.Ytkdmkgpjcbignaa.exTaken
open Go.ChangeShapes Go.WideShapes Go.ChangeAt Go.RowKit
set_option linter.unusedVariables false
set_option linter.unusedSimpArgs false

theorem tL_txt (xs ys : List M1.Upd) : ∀ i, i < (M1.tL xs ys).length → (M1.up (M1.tL xs ys) i).s.size ≤ maxLen := fun i hi => by
  by_cases h : M1.tOk xs ys = true
  · have e : M1.tL xs ys = M1.tO xs ys := by unfold M1.tL; rw [if_pos h]
    rw [e] at hi ⊢
    have hag : M1.tpre xs ys = true := by
      unfold M1.tOk at h
      simp at h; exact h.1
    exact tk_txts hag (Nat.le_refl _) i hi
  · have e : M1.tL xs ys = [] := by unfold M1.tL; rw [if_neg h]
    rw [e] at hi; cases hi
theorem tL_len (xs ys : List M1.Upd) : (M1.tL xs ys).length ≤ 60 := by
  by_cases h : M1.tOk xs ys = true
  · have e : M1.tL xs ys = M1.tO xs ys := by unfold M1.tL; rw [if_pos h]
    rw [e]
    unfold M1.tOk at h
    simp at h; exact M1.setOk_len h.2
  · have e : M1.tL xs ys = [] := by unfold M1.tL; rw [if_neg h]
    rw [e]; simp

set_option maxHeartbeats 40000000 in
set_option maxRecDepth 100000 in
theorem walk (av : Option Addr) (n cn : Nat) (xs : List M1.Upd) (bv : Option Addr) (m cm : Nat) (ys : List M1.Upd) (w : World) (h1 : IsUpds w av n cn xs) (h2 : IsUpds w bv m cm ys) :
    Calls Try.prog 5 #[.slice av n cn, .slice bv m cm] w fun e w' => e = .returned (.bool true) ∧ Below w.heap.size w w' := by
  have hm1 := h1.hcap
  have hm2 := h1.hmost
  have hm3 := h2.hcap
  have hm4 := h2.hmost
  have HL1 : Hid (xs.length = n) := h1.hlen
  have HL2 : Hid (ys.length = m) := h2.hlen
  have HT1 : Hid (∀ i, i < n → (M1.up xs i).s.size ≤ maxLen) := h1.htxt
  have HT2 : Hid (∀ i, i < m → (M1.up ys i).s.size ≤ maxLen) := h2.htxt
  have hN0 := tL_len xs ys
  have hT0 := tL_txt xs ys
  obtain ⟨N, hNe⟩ : ∃ N, M1.tL xs ys = N := ⟨_, rfl⟩
  obtain ⟨K, hKe⟩ : ∃ K, M1.tOk xs ys = K := ⟨_, rfl⟩
  rw [hNe] at hN0 hT0
  have HN : Hid (M1.tL xs ys = N) := hNe
  have HK : Hid (M1.tOk xs ys = K) := hKe
  have HTN : Hid (∀ i, i < N.length → (M1.up N i).s.size ≤ maxLen) := hT0
  clear hNe hKe hT0
  go_enter Try.func5, Try.ntmps5
  go_wp2_with fail
  refine (szUpdateS_any _ _ _ _ _ _ h1 (by omega) (by omega)).mono ?_
  rintro e wa ⟨⟨r, hn, hr0, hr1, rfl⟩ | rfl, hba⟩
  · have hn' : n ≤ 1048576 := by omega
    have hr2 : ¬ r < 0 := by omega
    go_wp2_with fail
    refine (szUpdateS_any _ _ _ _ _ _ (h2.below hba) hr0 hr1).mono ?_
    rintro e w0 ⟨⟨r', hm, hr0', hr1', rfl⟩ | rfl, hb0⟩
    · have hm' : m ≤ 1048576 := by omega
      have hr2' : ¬ r' < 0 := by omega
      have B0 := hba.trans (hb0.mono hba.size)
      have hs0 := B0.size
      clear hba hb0
      go_wp2_with fail
      refine (toUpdateS_any _ _ _ _ _ (h1.below B0) hn').mono ?_
      rintro e w1 ⟨gP1, rfl, hgP1, P11, hb1⟩
      have hlP1 := P11.lt
      have B1 := B0.trans (hb1.mono B0.size)
      have hs1 := hb1.size
      go_wp2_with fail
      refine (toUpdateS_any _ _ _ _ _ (h2.below B1) hm').mono ?_
      rintro e w2 ⟨gQ1, rfl, hgQ1, Q12, hb2⟩
      have hlQ1 := Q12.lt
      have B2 := B1.trans (hb2.mono B1.size)
      have hs2 := hb2.size
      have P12 := P11.below hb2
      clear P11
      go_wp2_with fail
      have js := taken_spec _ _ _ _ _ _ _ _ _ (isUpds_of_row HL1.out (Nat.le_refl _) (by unfold maxLen; omega) HT1.out P12) (isUpds_of_row HL2.out (Nat.le_refl _) (by unfold maxLen; omega) HT2.out Q12)
      rw [HN.out, HK.out] at js
      refine js.mono ?_
      clear js
      rintro e w3 ⟨⟨aW, cW, rfl, W3⟩, hb3⟩
      have B3 := B2.trans (hb3.mono B2.size)
      have hs3 := hb3.size
      have P13 := P12.below hb3
      have Q13 := Q12.below hb3
      clear P12 Q12
      go_wp2_with fail
      refine (toUpdateS_any _ _ _ _ _ (h1.below B3) hn').mono ?_
      rintro e w4 ⟨gP, rfl, hgP, P4, hb4⟩
      have hlP := P4.lt
      have B4 := B3.trans (hb4.mono B3.size)
      have hs4 := hb4.size
      have W4 := W3.below hb4
      clear W3
      go_wp2_with fail
      refine (toUpdateS_any _ _ _ _ _ (h2.below B4) hm').mono ?_
      rintro e w5 ⟨gQ, rfl, hgQ, Q5, hb5⟩
      have hlQ := Q5.lt
      have B5 := B4.trans (hb5.mono B4.size)
      have hs5 := hb5.size
      have W5 := W4.below hb5
      have P5 := P4.below hb5
      clear W4 P4
      go_wp2_with fail
      have js := taken_impl _ _ _ _ _ _ _ _ _ (isUpds_of_row HL1.out (Nat.le_refl _) (by unfold maxLen; omega) HT1.out P5) (isUpds_of_row HL2.out (Nat.le_refl _) (by unfold maxLen; omega) HT2.out Q5)
      rw [HN.out, HK.out] at js
      refine js.mono ?_
      clear js
      rintro e w6 ⟨⟨aG, cG, rfl, G6⟩, hb6⟩
      have B6 := B5.trans (hb6.mono B5.size)
      have hs6 := hb6.size
      have W6 := W5.below hb6
      have P6 := P5.below hb6
      have Q6 := Q5.below hb6
      clear W5 P5 Q5
      have hKK : (K != K) = false := by simp
      go_wp2_with fail
      refine (eqUpdateS_self _ _ _ _ _ _ _ (G6.upds rfl HTN.out) (W6.upds rfl HTN.out)).mono ?_
      rintro e w7 ⟨rfl, hb7⟩
      have B7 := B6.trans (hb7.mono B6.size)
      have hs7 := hb7.size
      have W7 := W6.below hb7
      have P7 := P6.below hb7
      have Q7 := Q6.below hb7
      have G7 := G6.below hb7
      clear W6 P6 Q6 G6
      go_wp2_with fail
      refine (toUpdateS_any _ _ _ _ _ (h1.below B7) hn').mono ?_
      rintro e w8 ⟨gP2, rfl, hgP2, P28, hb8⟩
      have hlP2 := P28.lt
      have B8 := B7.trans (hb8.mono B7.size)
      have hs8 := hb8.size
      have W8 := W7.below hb8
      have P8 := P7.below hb8
      have Q8 := Q7.below hb8
      have G8 := G7.below hb8
      clear W7 P7 Q7 G7
      go_wp2_with fail
      refine (eqUpdateS_self _ _ _ _ _ _ _ (isUpds_of_row HL1.out (Nat.le_refl _) (by unfold maxLen; omega) HT1.out P8) (isUpds_of_row HL1.out (Nat.le_refl _) (by unfold maxLen; omega) HT1.out P28)).mono ?_
      rintro e w9 ⟨rfl, hb9⟩
      have B9 := B8.trans (hb9.mono B8.size)
      have hs9 := hb9.size
      have W9 := W8.below hb9
      have P9 := P8.below hb9
      have Q9 := Q8.below hb9
      have G9 := G8.below hb9
      have P29 := P28.below hb9
      clear W8 P8 Q8 G8 P28
      go_wp2_with fail
      refine (toUpdateS_any _ _ _ _ _ (h2.below B9) hm').mono ?_
      rintro e w10 ⟨gQ2, rfl, hgQ2, Q210, hb10⟩
      have hlQ2 := Q210.lt
      have B10 := B9.trans (hb10.mono B9.size)
      have hs10 := hb10.size
      have W10 := W9.below hb10
      have P10 := P9.below hb10
      have Q10 := Q9.below hb10
      have G10 := G9.below hb10
      clear W9 P9 Q9 G9
      go_wp2_with fail
      refine (eqUpdateS_self _ _ _ _ _ _ _ (isUpds_of_row HL2.out (Nat.le_refl _) (by unfold maxLen; omega) HT2.out Q10) (isUpds_of_row HL2.out (Nat.le_refl _) (by unfold maxLen; omega) HT2.out Q210)).mono ?_
      rintro e w11 ⟨rfl, hb11⟩
      have B11 := B10.trans (hb11.mono B10.size)
      have hs11 := hb11.size
      have W11 := W10.below hb11
      have P11 := P10.below hb11
      have Q11 := Q10.below hb11
      have G11 := G10.below hb11
      have Q211 := Q210.below hb11
      clear W10 P10 Q10 G10 Q210
      go_wp2_with fail
      refine (markU_some _ _ _ _ 1 _ P11 (Nat.le_refl _) (by unfold maxLen; omega) hn' (by omega) (by omega)).mono ?_
      rintro e w12 ⟨rfl, x12, hb12⟩
      clear x12
      have B12 := B11.trans (gr_to hb12 B11.size (by omega))
      have hs12 := hb12.size
      have W12 := W11.off hb12 (by omega)
      have Q12 := Q11.gr hb12 (by omega)
      have G12 := G11.off hb12 (by omega)
      clear W11 Q11 G11
      have e1 : (0 : Int) ≤ 1 + 13 * (n : Int) := by omega
      have e2 : 1 + 13 * (n : Int) ≤ 100000000 := by omega
      go_wp2_with fail
      refine (markU_some _ _ _ _ (1 + 13 * (n : Int)) _ Q12 (Nat.le_refl _) (by unfold maxLen; omega) hm' (by omega) (by omega)).mono ?_
      rintro e w13 ⟨rfl, x13, hb13⟩
      clear x13
      have B13 := B12.trans (gr_to hb13 B12.size (by omega))
      have hs13 := hb13.size
      have W13 := W12.off hb13 (by omega)
      have G13 := G12.off hb13 (by omega)
      clear W12 G12
      have e3 : ¬ (1 + 13 * (n : Int) + 13 * (m : Int)) < 0 := by omega
      go_wp2_with fail
      refine (eqUpdateS_self _ _ _ _ _ _ _ (G13.upds rfl HTN.out) (W13.upds rfl HTN.out)).mono ?_
      rintro e w14 ⟨rfl, hb14⟩
      have B14 := B13.trans (hb14.mono B13.size)
      have hs14 := hb14.size
      have W14 := W13.below hb14
      have G14 := G13.below hb14
      clear W13 G13
      go_wp2_with fail
      refine (markU_any _ _ _ _ _ _ 1 _ G14 (by omega) (by omega) (by omega)).mono ?_
      rintro e w15 ⟨rfl, G15, mk15⟩
      have W15 := W14.mk G14 mk15 (by omega)
      have B15 := B14.trans (MkU.below G14 mk15 B14.size (by omega))
      have hs15 := (MkU.below (B := w.heap.size) G14 mk15 B14.size (by omega)).size
      clear W14 G14 mk15
      have e4 : ¬ (1 + 13 * (N.length : Int)) < 0 := by omega
      go_wp2_with fail
      refine (heldU_any _ _ _ _ _ 1 _ G15 (by omega) (by omega) (by omega)).mono ?_
      rintro e w16 ⟨rfl, hb16⟩
      have B16 := B15.trans (hb16.mono B15.size)
      have hs16 := hb16.size
      have W16 := W15.below hb16
      have G16 := G15.below hb16
      clear W15 G15
      go_wp2_with fail
      refine (toUpdateS_any _ _ _ _ _ (h1.below B16) hn').mono ?_
      rintro e w17 ⟨gP3, rfl, hgP3, P317, hb17⟩
      have hlP3 := P317.lt
      have B17 := B16.trans (hb17.mono B16.size)
      have hs17 := hb17.size
      have W17 := W16.below hb17
      have G17 := G16.below hb17
      clear W16 G16
      go_wp2_with fail
      refine (toUpdateS_any _ _ _ _ _ (h2.below B17) hm').mono ?_
      rintro e w18 ⟨gQ3, rfl, hgQ3, Q318, hb18⟩
      have hlQ3 := Q318.lt
      have B18 := B17.trans (hb18.mono B17.size)
      have hs18 := hb18.size
      have W18 := W17.below hb18
      have G18 := G17.below hb18
      have P318 := P317.below hb18
      clear W17 G17 P317
      go_wp2_with fail
      have js := taken_impl _ _ _ _ _ _ _ _ _ (isUpds_of_row HL1.out (Nat.le_refl _) (by unfold maxLen; omega) HT1.out P318) (isUpds_of_row HL2.out (Nat.le_refl _) (by unfold maxLen; omega) HT2.out Q318)
      rw [HN.out, HK.out] at js
      refine js.mono ?_
      clear js
      rintro e w19 ⟨⟨aH, cH, rfl, H19⟩, hb19⟩
      have B19 := B18.trans (hb19.mono B18.size)
      have hs19 := hb19.size
      have W19 := W18.below hb19
      have G19 := G18.below hb19
      have P319 := P318.below hb19
      have Q319 := Q318.below hb19
      clear W18 G18 P318 Q318
      go_wp2_with fail
      refine (eqUpdateS_self _ _ _ _ _ _ _ (H19.upds rfl HTN.out) (W19.upds rfl HTN.out)).mono ?_
      rintro e w20 ⟨rfl, hb20⟩
      have B20 := B19.trans (hb20.mono B19.size)
      have hs20 := hb20.size
      have W20 := W19.below hb20
      have G20 := G19.below hb20
      have H20 := H19.below hb20
      clear W19 G19 H19
      go_wp2_with fail
      refine (heldU_any _ _ _ _ _ 1 _ G20 (by omega) (by omega) (by omega)).mono ?_
      rintro e w21 ⟨rfl, hb21⟩
      have B21 := B20.trans (hb21.mono B20.size)
      have hs21 := hb21.size
      have W21 := W20.below hb21
      have G21 := G20.below hb21
      have H21 := H20.below hb21
      clear W20 G20 H20
      go_wp2_with fail
      go_ret
      exact ⟨rfl, B21⟩
    · have B0 := hba.trans (hb0.mono hba.size)
      go_wp2_with fail
      go_ret
      exact ⟨rfl, B0⟩
  · go_wp2_with fail
    go_ret
    exact ⟨rfl, hba⟩

theorem own : ownKnob Try.prog.godebug = none := by kernel_rfl
theorem laidOut : laidOutB Try.prog = true := by kernel_rfl
set_option maxRecDepth 100000 in
theorem lifted (os : Os) (started : os.Started) (H : Type) (enc : TypeId × Value → H) :
    ReturnsInHanded {} Try.checked os 5 .any (Rows.fnExactTakenSpec.pre6 enc Try.prog Try.f5 Rows.fnExactTakenRow.domain false) (Rows.fnExactTakenSpec.post enc Try.prog Try.f5 false true false false) := by
  refine returnsInHanded_of_change (C := Try.checked) own started (by kernel_rfl) Try.func5
    (ChangeSpec.witness6 (enc := enc) (C := Try.checked) false ⟨#[], #[.slice none 0 0, .slice none 0 0], []⟩ 8 (by kernel_rfl) (by kernel_rfl) (by kernel_rfl) (by kernel_rfl)) ?_
  intro W base args ds gs before hval0 hW hcnd _
  have hval : ∀ (j : Nat) t v, Try.f5.params[j]? = some t → args[j]? = some v → Value.okWide Try.prog W .any base t v := hval0
  have hW' := hW
  obtain ⟨p, q, hA0, hV, rfl, hfz, hnd⟩ := hW
  have hA : DataW.TrodAll enc Try.prog W 0 (fun _ => true) true Try.f5.params.toList args.toList ds p := hA0
  rw [Try.params5] at hA hval
  obtain ⟨v0, vs0, d0, ds0, p0, q0, hargs, rfl, rfl, h0, r0⟩ := trodAll_cons hA
  obtain ⟨v1, vs1, d1, ds1, p1, q1, rfl, rfl, rfl, h1, r1⟩ := trodAll_cons r0
  obtain ⟨rfl, rfl, rfl⟩ := trodAll_nil r1
  obtain rfl : args = #[v0, v1] := by cases args; simp_all
  obtain ⟨rfl, rfl⟩ := trodVars_none hV
  have k0 := h0
  have lt0 : ∀ x ∈ p0, x.block < W.heap.size := by obtain ⟨m, hm⟩ := k0; exact DataW.trod_lt m _ _ _ hm
  have k1 := h1
  have lt1 : ∀ x ∈ p1, x.block < W.heap.size := by obtain ⟨m, hm⟩ := k1; exact DataW.trod_lt m _ _ _ hm
  obtain ⟨a0, l0, c0, rfl⟩ := okWide_slice Try.underlying22 (hval 0 22 v0 rfl rfl)
  obtain ⟨fu0, hf0⟩ := h0
  obtain ⟨us0, vec0⟩ := open_updates hf0
  obtain ⟨a1, l1, c1, rfl⟩ := okWide_slice Try.underlying22 (hval 1 22 v1 rfl rfl)
  obtain ⟨fu1, hf1⟩ := h1
  obtain ⟨us1, vec1⟩ := open_updates hf1
  clear hA0 hval0
  refine (walk a0 l0 c0 us0 a1 l1 c1 us1 W vec0 vec1).mono fun e W' ⟨he, bel⟩ => ?_
  subst he
  exact ⟨_, rfl, _, _, _, [], _, [], hW', trodAll_mk1 (shut_bool Try.underlying4 _), (trodAll_cons_mk (Below.trod laidOut (by kernel_rfl) (of_decide_eq_true (by kernel_rfl)) k0 bel lt0) (trodAll_cons_mk (Below.trod laidOut (by kernel_rfl) (of_decide_eq_true (by kernel_rfl)) k1 bel lt1) trodAll_mk0)), rfl, bel.frame _, fun h => by cases h⟩

theorem over : Rows.fnExactTakenRow.holds Try.pinned (OpenSpec.ofChange Rows.fnExactTakenSpec) :=
  OpenClaim.holds_of_wide 5 Try.f5 rfl rfl rfl rfl rfl rfl rfl ⟨rfl, rfl, rfl, rfl, rfl⟩ rfl rfl rfl rfl rfl (by kernel_rfl) Try.func5 (by kernel_rfl)
    (of_decide_eq_true (by kernel_rfl)) (by unfold Func.isWrapper; first | (rw [if_pos (by decide +kernel)]; kernel_rfl) | (rw [if_neg (by decide +kernel)]; exact ⟨rfl, rfl⟩))
    (fun os started H enc _ => lifted os started H enc)

theorem proved : Rows.FnExactTakenSaid := over
end Go.Proofs.Ytkdmkgpjcbignaa.exTaken
namespace Go.Proofs.Ytkdmkgpjcbignaa
theorem fnExactTaken_holds : Rows.FnExactTakenSaid := exTaken.proved
end Go.Proofs.Ytkdmkgpjcbignaa
