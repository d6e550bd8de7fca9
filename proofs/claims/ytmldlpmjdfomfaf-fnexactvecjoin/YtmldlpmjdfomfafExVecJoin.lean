/-
  For all two slices of dots the law FnExactVecJoin answers true: VecJoin of the program answers as the model's does, writes into no argument, and its answer is memory of its own, behind another call too; the arguments read as they did. No condition.
-/
import Derived.Test.YtmldlpmjdfomfafJoin
import Derived.Test.YtmldlpmjdfomfafJoinImpl
import Derived.Test.YtmldlpmjdfomfafMark
import Derived.Test.YtmldlpmjdfomfafSz
import Derived.Test.YtmldlpmjdfomfafOpenDots
import Derived.ShutString
import Derived.ChangeOld
import Derived.Lib.SmallJoins
namespace Go.Proofs.Ytmldlpmjdfomfaf.exVecJoin
open Go.ChangeShapes Go.WideShapes Go.ChangeAt Go.RowKit
set_option linter.unusedVariables false

/-- A contract kept from the walk's own rules. -/
def Hidn (p : Prop) : Prop := p
theorem hide {p : Prop} (h : p) : Hidn p := h
theorem unhide {p : Prop} (h : Hidn p) : p := h

set_option maxHeartbeats 8000000 in
set_option maxRecDepth 100000 in
theorem walk (av : Option Addr) (n cn : Nat) (xs : List (Int × Int)) (bv : Option Addr) (m cm : Nat) (ys : List (Int × Int)) (w : World) (h1 : IsVec w av n cn xs) (h2 : IsVec w bv m cm ys) :
    Calls Try.prog 6 #[.slice av n cn, .slice bv m cm] w fun e w' => e = .returned (.bool true) ∧ Below w.heap.size w w' := by
  have hm1 := h1.hcap
  have hm2 := h1.hmost
  have hm3 := h2.hcap
  have hm4 := h2.hmost
  by_cases hn : (n : Int) ≤ 1048576
  · by_cases hk : (m : Int) ≤ 1048576 - n
    · have hn' : n ≤ 1048576 := by omega
      have hk' : m ≤ 1048576 := by omega
      go_enter Try.func6, Try.ntmps6
      go_wp2_with fail
      refine (szDotS_yes _ _ _ _ _ hm1 hm2 (by omega) (by omega) hn).mono ?_
      rintro e w0 ⟨rfl, rfl⟩
      go_wp2_with fail
      refine (szDotS_yes _ _ _ _ _ hm3 hm4 (by omega) (by omega) hk).mono ?_
      rintro e w0 ⟨rfl, rfl⟩
      go_wp2_with fail
      have hl1 := h1.hlen
      have hl2 := h2.hlen
      have HL1 : Hid (xs.length = n) := hl1
      have HL2 : Hid (ys.length = m) := hl2
      clear hl1 hl2
      have hJ := M1.joinL_len xs ys
      obtain ⟨J, hJe⟩ : ∃ J, M1.joinL xs ys = J := ⟨_, rfl⟩
      rw [hJe] at hJ
      have HJ : Hid (M1.joinL xs ys = J) := hJe
      clear hJe
      refine (toDotS_any _ _ _ _ _ h1 hn').mono ?_
      rintro e w1 ⟨g1, rfl, hg1, r1, hb1⟩
      have hB1 := hb1
      have hs1 := hb1.size
      have A_1 : MV w1 (some ⟨g1, 0, none⟩) n n w0.heap.size w1.heap.size (dcell xs) := ⟨Nat.le_refl _, by unfold maxLen; omega, Or.inr ⟨g1, rfl, hg1, r1.lt, r1⟩⟩
      go_wp2_with fail
      refine (toDotS_any _ _ _ _ _ (h2.below hB1) hk').mono ?_
      rintro e w2 ⟨g2, rfl, hg2, r2, hb2⟩
      have hB2 := hB1.trans (hb2.mono hB1.size)
      have A_2 := A_1.below hb2
      clear A_1
      have hs2 := hb2.size
      have B_2 : MV w2 (some ⟨g2, 0, none⟩) m m w1.heap.size w2.heap.size (dcell ys) := ⟨Nat.le_refl _, by unfold maxLen; omega, Or.inr ⟨g2, rfl, hg2, r2.lt, r2⟩⟩
      go_wp2_with fail
      have js := vecJoin_spec _ _ _ _ _ _ _ _ _ (A_2.vec HL1.out) (B_2.vec HL2.out)
      rw [HJ.out] at js
      have JS := hide js
      clear js
      clear A_2
      clear B_2
      refine (unhide JS).mono ?_
      rintro e w3 ⟨⟨v, rfl, own3⟩, hb3⟩
      obtain ⟨a3, c3, rfl, W_3⟩ := MV.of_owns own3
      have hB3 := hB2.trans (hb3.mono hB2.size)
      have hs3 := hb3.size
      go_wp2_with fail
      clear JS
      refine (toDotS_any _ _ _ _ _ (h1.below hB3) hn').mono ?_
      rintro e w4 ⟨g4, rfl, hg4, r4, hb4⟩
      have hB4 := hB3.trans (hb4.mono hB3.size)
      have W_4 := W_3.below hb4
      clear W_3
      have hs4 := hb4.size
      have X_4 : MV w4 (some ⟨g4, 0, none⟩) n n w3.heap.size w4.heap.size (dcell xs) := ⟨Nat.le_refl _, by unfold maxLen; omega, Or.inr ⟨g4, rfl, hg4, r4.lt, r4⟩⟩
      go_wp2_with fail
      refine (toDotS_any _ _ _ _ _ (h2.below hB4) hk').mono ?_
      rintro e w5 ⟨g5, rfl, hg5, r5, hb5⟩
      have hB5 := hB4.trans (hb5.mono hB4.size)
      have W_5 := W_4.below hb5
      clear W_4
      have X_5 := X_4.below hb5
      clear X_4
      have hs5 := hb5.size
      have Y_5 : MV w5 (some ⟨g5, 0, none⟩) m m w4.heap.size w5.heap.size (dcell ys) := ⟨Nat.le_refl _, by unfold maxLen; omega, Or.inr ⟨g5, rfl, hg5, r5.lt, r5⟩⟩
      go_wp2_with fail
      have js := vecJoin_impl _ _ _ _ _ _ _ _ _ (X_5.vec HL1.out) (Y_5.vec HL2.out)
      rw [HJ.out] at js
      have JS := hide js
      clear js
      refine (unhide JS).mono ?_
      rintro e w6 ⟨⟨v, rfl, own6⟩, hb6⟩
      obtain ⟨a6, c6, rfl, G_6⟩ := MV.of_owns own6
      have hB6 := hB5.trans (hb6.mono hB5.size)
      have W_6 := W_5.below hb6
      clear W_5
      have X_6 := X_5.below hb6
      clear X_5
      have Y_6 := Y_5.below hb6
      clear Y_5
      have hs6 := hb6.size
      go_wp2_with fail
      clear JS
      refine (eqDotS_same _ _ _ _ _ _ _ _ (G_6.vec rfl) (W_6.vec rfl)).mono ?_
      rw [decide_eq_true (rfl : J = J)]
      rintro e w7 ⟨rfl, hb7⟩
      have hB7 := hB6.trans (hb7.mono hB6.size)
      have W_7 := W_6.below hb7
      clear W_6
      have X_7 := X_6.below hb7
      clear X_6
      have Y_7 := Y_6.below hb7
      clear Y_6
      have G_7 := G_6.below hb7
      clear G_6
      have hs7 := hb7.size
      go_wp2_with fail
      refine (toDotS_any _ _ _ _ _ (h1.below hB7) hn').mono ?_
      rintro e w8 ⟨g8, rfl, hg8, r8, hb8⟩
      have hB8 := hB7.trans (hb8.mono hB7.size)
      have W_8 := W_7.below hb8
      clear W_7
      have X_8 := X_7.below hb8
      clear X_7
      have Y_8 := Y_7.below hb8
      clear Y_7
      have G_8 := G_7.below hb8
      clear G_7
      have hs8 := hb8.size
      have P_8 : MV w8 (some ⟨g8, 0, none⟩) n n w7.heap.size w8.heap.size (dcell xs) := ⟨Nat.le_refl _, by unfold maxLen; omega, Or.inr ⟨g8, rfl, hg8, r8.lt, r8⟩⟩
      go_wp2_with fail
      refine (eqDotS_same _ _ _ _ _ _ _ _ (X_8.vec HL1.out) (P_8.vec HL1.out)).mono ?_
      rw [decide_eq_true (rfl : xs = xs)]
      rintro e w9 ⟨rfl, hb9⟩
      have hB9 := hB8.trans (hb9.mono hB8.size)
      have W_9 := W_8.below hb9
      clear W_8
      have X_9 := X_8.below hb9
      clear X_8
      have Y_9 := Y_8.below hb9
      clear Y_8
      have G_9 := G_8.below hb9
      clear G_8
      have P_9 := P_8.below hb9
      clear P_8
      have hs9 := hb9.size
      go_wp2_with fail
      clear P_9
      refine (toDotS_any _ _ _ _ _ (h2.below hB9) hk').mono ?_
      rintro e w10 ⟨g10, rfl, hg10, r10, hb10⟩
      have hB10 := hB9.trans (hb10.mono hB9.size)
      have W_10 := W_9.below hb10
      clear W_9
      have X_10 := X_9.below hb10
      clear X_9
      have Y_10 := Y_9.below hb10
      clear Y_9
      have G_10 := G_9.below hb10
      clear G_9
      have hs10 := hb10.size
      have P_10 : MV w10 (some ⟨g10, 0, none⟩) m m w9.heap.size w10.heap.size (dcell ys) := ⟨Nat.le_refl _, by unfold maxLen; omega, Or.inr ⟨g10, rfl, hg10, r10.lt, r10⟩⟩
      go_wp2_with fail
      refine (eqDotS_same _ _ _ _ _ _ _ _ (Y_10.vec HL2.out) (P_10.vec HL2.out)).mono ?_
      rw [decide_eq_true (rfl : ys = ys)]
      rintro e w11 ⟨rfl, hb11⟩
      have hB11 := hB10.trans (hb11.mono hB10.size)
      have W_11 := W_10.below hb11
      clear W_10
      have X_11 := X_10.below hb11
      clear X_10
      have Y_11 := Y_10.below hb11
      clear Y_10
      have G_11 := G_10.below hb11
      clear G_10
      have P_11 := P_10.below hb11
      clear P_10
      have hs11 := hb11.size
      go_wp2_with fail
      clear P_11
      have hJ' : J.length ≤ 1048576 := by omega
      refine (mark_any _ _ _ _ _ _ 1 _ X_11 hn' (by omega) (by omega)).mono ?_
      rintro e w12 ⟨rfl, mm12, mk12⟩
      have hb12 : Below w0.heap.size w11 w12 := Mk.below X_11 mk12 hB11.size (by omega)
      have hB12 := hB11.trans hb12
      have hs12 := hb12.size
      have W_12 := W_11.mk X_11 mk12 (by omega)
      clear W_11
      have Y_12 := Y_11.mk X_11 mk12 (by omega)
      clear Y_11
      have G_12 := G_11.mk X_11 mk12 (by omega)
      clear G_11
      clear X_11
      have X_12 := mm12
      clear mm12 mk12
      go_wp2_with fail
      clear X_12
      refine (mark_any _ _ _ _ _ _ (1 + 2 * (n : Int)) _ Y_12 hk' (by omega) (by omega)).mono ?_
      rintro e w13 ⟨rfl, mm13, mk13⟩
      have hb13 : Below w0.heap.size w12 w13 := Mk.below Y_12 mk13 hB12.size (by omega)
      have hB13 := hB12.trans hb13
      have hs13 := hb13.size
      have W_13 := W_12.mk Y_12 mk13 (by omega)
      clear W_12
      have G_13 := G_12.mk Y_12 mk13 (by omega)
      clear G_12
      clear Y_12
      have Y_13 := mm13
      clear mm13 mk13
      go_wp2_with fail
      clear Y_13
      refine (eqDotS_same _ _ _ _ _ _ _ _ (G_13.vec rfl) (W_13.vec rfl)).mono ?_
      rw [decide_eq_true (rfl : J = J)]
      rintro e w14 ⟨rfl, hb14⟩
      have hB14 := hB13.trans (hb14.mono hB13.size)
      have W_14 := W_13.below hb14
      clear W_13
      have G_14 := G_13.below hb14
      clear G_13
      have hs14 := hb14.size
      go_wp2_with fail
      refine (mark_any _ _ _ _ _ _ 1 _ G_14 hJ' (by omega) (by omega)).mono ?_
      rintro e w15 ⟨rfl, mm15, mk15⟩
      have hb15 : Below w0.heap.size w14 w15 := Mk.below G_14 mk15 hB14.size (by omega)
      have hB15 := hB14.trans hb15
      have hs15 := hb15.size
      have W_15 := W_14.mk G_14 mk15 (by omega)
      clear W_14
      clear G_14
      have G_15 := mm15
      clear mm15 mk15
      go_wp2_with fail
      refine (held_any _ _ _ _ _ 1 _ G_15 hJ' (by omega) (by omega)).mono ?_
      rintro e wh ⟨rfl, rfl⟩
      go_wp2_with fail
      have h1w := h1.below hB15
      have h2w := h2.below hB15
      refine (toDotS_any _ _ _ _ _ h1w hn').mono ?_
      rintro e w16 ⟨g16, rfl, hg16, r16, hb16⟩
      have hB16 := hB15.trans (hb16.mono hB15.size)
      have W_16 := W_15.below hb16
      clear W_15
      have G_16 := G_15.below hb16
      clear G_15
      have hs16 := hb16.size
      have A_16 : MV w16 (some ⟨g16, 0, none⟩) n n wh.heap.size w16.heap.size (dcell xs) := ⟨Nat.le_refl _, by unfold maxLen; omega, Or.inr ⟨g16, rfl, hg16, r16.lt, r16⟩⟩
      go_wp2_with fail
      refine (toDotS_any _ _ _ _ _ (h2.below hB16) hk').mono ?_
      rintro e w17 ⟨g17, rfl, hg17, r17, hb17⟩
      have hB17 := hB16.trans (hb17.mono hB16.size)
      have W_17 := W_16.below hb17
      clear W_16
      have G_17 := G_16.below hb17
      clear G_16
      have A_17 := A_16.below hb17
      clear A_16
      have hs17 := hb17.size
      have B_17 : MV w17 (some ⟨g17, 0, none⟩) m m w16.heap.size w17.heap.size (dcell ys) := ⟨Nat.le_refl _, by unfold maxLen; omega, Or.inr ⟨g17, rfl, hg17, r17.lt, r17⟩⟩
      go_wp2_with fail
      have js := vecJoin_impl _ _ _ _ _ _ _ _ _ (A_17.vec HL1.out) (B_17.vec HL2.out)
      rw [HJ.out] at js
      have JS := hide js
      clear js
      clear A_17
      clear B_17
      refine (unhide JS).mono ?_
      rintro e w18 ⟨⟨v, rfl, own18⟩, hb18⟩
      obtain ⟨a18, c18, rfl, H_18⟩ := MV.of_owns own18
      have hB18 := hB17.trans (hb18.mono hB17.size)
      have W_18 := W_17.below hb18
      clear W_17
      have G_18 := G_17.below hb18
      clear G_17
      have hs18 := hb18.size
      go_wp2_with fail
      clear JS
      refine (eqDotS_same _ _ _ _ _ _ _ _ (H_18.vec rfl) (W_18.vec rfl)).mono ?_
      rw [decide_eq_true (rfl : J = J)]
      rintro e w19 ⟨rfl, hb19⟩
      have hB19 := hB18.trans (hb19.mono hB18.size)
      have W_19 := W_18.below hb19
      clear W_18
      have G_19 := G_18.below hb19
      clear G_18
      have H_19 := H_18.below hb19
      clear H_18
      have hs19 := hb19.size
      go_wp2_with fail
      refine (held_any _ _ _ _ _ 1 _ G_19 hJ' (by omega) (by omega)).mono ?_
      rintro e wi ⟨rfl, rfl⟩
      go_wp2_with fail
      go_ret
      exact ⟨rfl, hB19⟩
    · go_enter Try.func6, Try.ntmps6
      go_wp2_with fail
      refine (szDotS_yes _ _ _ _ _ hm1 hm2 (by omega) (by omega) hn).mono ?_
      rintro e w0 ⟨rfl, rfl⟩
      go_wp2_with fail
      refine (szDotS_no _ _ _ _ _ hm3 hm4 (by omega) (by omega) (by omega)).mono ?_
      rintro e w0 ⟨rfl, rfl⟩
      go_wp2_with fail
      go_ret
      exact ⟨rfl, Below.refl _ _⟩
  · go_enter Try.func6, Try.ntmps6
    go_wp2_with fail
    refine (szDotS_no _ _ _ _ _ hm1 hm2 (by omega) (by omega) (by omega)).mono ?_
    rintro e w0 ⟨rfl, rfl⟩
    go_wp2_with fail
    go_ret
    exact ⟨rfl, Below.refl _ _⟩

theorem own : ownKnob Try.prog.godebug = none := by kernel_rfl
theorem laidOut : laidOutB Try.prog = true := by kernel_rfl
set_option maxRecDepth 100000 in
theorem lifted (os : Os) (started : os.Started) (H : Type) (enc : TypeId × Value → H) :
    ReturnsInHanded {} Try.checked os 6 .any (Rows.fnExactVecJoinSpec.pre6 enc Try.prog Try.f6 Rows.fnExactVecJoinRow.domain false) (Rows.fnExactVecJoinSpec.post enc Try.prog Try.f6 false true false false) := by
  refine returnsInHanded_of_change (C := Try.checked) own started (by kernel_rfl) Try.func6
    (ChangeSpec.witness6 (enc := enc) (C := Try.checked) false ⟨#[], #[.slice none 0 0, .slice none 0 0], []⟩ 8 (by kernel_rfl) (by kernel_rfl) (by kernel_rfl) (by kernel_rfl)) ?_
  intro W base args ds gs before hval0 hW hcnd _
  have hval : ∀ (j : Nat) t v, Try.f6.params[j]? = some t → args[j]? = some v → Value.okWide Try.prog W .any base t v := hval0
  have hW' := hW
  obtain ⟨p, q, hA0, hV, rfl, hfz, hnd⟩ := hW
  have hA : DataW.TrodAll enc Try.prog W 0 (fun _ => true) true Try.f6.params.toList args.toList ds p := hA0
  rw [Try.params6] at hA hval
  obtain ⟨v0, vs0, d0, ds0, p0, q0, hargs, rfl, rfl, h0, r0⟩ := trodAll_cons hA
  obtain ⟨v1, vs1, d1, ds1, p1, q1, rfl, rfl, rfl, h1, r1⟩ := trodAll_cons r0
  obtain ⟨rfl, rfl, rfl⟩ := trodAll_nil r1
  obtain rfl : args = #[v0, v1] := by cases args; simp_all
  obtain ⟨rfl, rfl⟩ := trodVars_none hV
  have k0 := h0
  have lt0 : ∀ x ∈ p0, x.block < W.heap.size := by obtain ⟨m, hm⟩ := k0; exact DataW.trod_lt m _ _ _ hm
  have k1 := h1
  have lt1 : ∀ x ∈ p1, x.block < W.heap.size := by obtain ⟨m, hm⟩ := k1; exact DataW.trod_lt m _ _ _ hm
  obtain ⟨a0, l0, c0, rfl⟩ := okWide_slice Try.underlying30 (hval 0 30 v0 rfl rfl)
  obtain ⟨fu0, hf0⟩ := h0
  obtain ⟨ds0, vec0⟩ := open_dots hf0
  obtain ⟨a1, l1, c1, rfl⟩ := okWide_slice Try.underlying30 (hval 1 30 v1 rfl rfl)
  obtain ⟨fu1, hf1⟩ := h1
  obtain ⟨ds1, vec1⟩ := open_dots hf1
  clear hA0 hval0
  refine (walk a0 l0 c0 ds0 a1 l1 c1 ds1 W vec0 vec1).mono fun e W' ⟨he, bel⟩ => ?_
  subst he
  exact ⟨_, rfl, _, _, _, [], _, [], hW', trodAll_mk1 (shut_bool Try.underlying4 _), (trodAll_cons_mk (Below.trod laidOut (by kernel_rfl) (of_decide_eq_true (by kernel_rfl)) k0 bel lt0) (trodAll_cons_mk (Below.trod laidOut (by kernel_rfl) (of_decide_eq_true (by kernel_rfl)) k1 bel lt1) trodAll_mk0)), rfl, bel.frame _, fun h => by cases h⟩

theorem over : Rows.fnExactVecJoinRow.holds Try.pinned (OpenSpec.ofChange Rows.fnExactVecJoinSpec) :=
  OpenClaim.holds_of_wide 6 Try.f6 rfl rfl rfl rfl rfl rfl rfl ⟨rfl, rfl, rfl, rfl, rfl⟩ rfl rfl rfl rfl rfl (by kernel_rfl) Try.func6 (by kernel_rfl)
    (of_decide_eq_true (by kernel_rfl)) (by unfold Func.isWrapper; first | (rw [if_pos (by decide +kernel)]; kernel_rfl) | (rw [if_neg (by decide +kernel)]; exact ⟨rfl, rfl⟩))
    (fun os started H enc _ => lifted os started H enc)

theorem proved : Rows.FnExactVecJoinSaid := over
end Go.Proofs.Ytmldlpmjdfomfaf.exVecJoin
namespace Go.Proofs.Ytmldlpmjdfomfaf
theorem fnExactVecJoin_holds : Rows.FnExactVecJoinSaid := exVecJoin.proved
end Go.Proofs.Ytmldlpmjdfomfaf
