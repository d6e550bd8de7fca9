/-
  For every code the law FnVectors answers true: vectors joined cover both, and are covered by whatever covers both; in whatever order they are joined they are the same. No condition.
-/
import Derived.Test.YthnkpcoockhfcaaMath6
import Derived.Test.YthnkpcoockhfcaaVecDraw
import Derived.Test.YthnkpcoockhfcaaVecOkSpec
import Derived.Test.YthnkpcoockhfcaaVecFrom
import Derived.Test.YthnkpcoockhfcaaVecOf
import Derived.Test.YthnkpcoockhfcaaCov
import Derived.Test.YthnkpcoockhfcaaJoin
import Derived.Test.YthnkpcoockhfcaaJoinImpl
import Derived.ShutString
import Derived.ChangeOld
import Derived.Lib.SmallJoins
namespace Go.Proofs.Ythnkpcoockhfcaa.fnVectors
open Go.ChangeShapes Go.WideShapes Go.ChangeAt Go.RowKit
set_option linter.unusedVariables false
set_option linter.unusedSimpArgs false

theorem big_any (av : Option Addr) (len cap : Nat) (w : World) (hc : len ≤ cap) (hm : cap ≤ maxLen) :
    Calls Try.prog 9 #[.slice av len cap] w fun e w' => e = .returned (.bool (decide ((1048576 : Int) < (len : Int)))) ∧ w' = w := by
  unfold maxLen at hm
  go_enter Try.func9, Try.ntmps9
  go_wp2
  go_ret
  exact ⟨rfl, rfl⟩

theorem ofP_ok {ds : List (Int × Int)} (h : M1.vecOk ds = true) (r : Int) : ofP ds r = M1.lk ds r := by unfold ofP; rw [if_pos h]
theorem covP_ok {a b : List (Int × Int)} (ha : M1.vecOk a = true) (hb : M1.vecOk b = true) : covP a b = M1.covB a b := by unfold covP; rw [ha, hb]; rfl

set_option maxHeartbeats 16000000 in
set_option maxRecDepth 100000 in
theorem walk (av : Option Addr) (len cap : Nat) (w : World) (h : IsBytes w av len cap) :
    Calls Try.prog 3 #[.slice av len cap] w fun e w' => e = .returned (.bool true) ∧ Below w.heap.size w w' := by
  by_cases hl : (1048576 : Int) < (len : Int)
  · go_enter Try.func3, Try.ntmps3
    go_wp2_with fail
    refine (big_any _ _ _ _ h.hc h.hm).mono ?_
    rw [decide_eq_true hl]
    rintro e w0 ⟨rfl, rfl⟩
    go_wp2_with fail
    go_ret
    exact ⟨rfl, Below.refl _ _⟩
  · go_enter Try.func3, Try.ntmps3
    go_wp2_with fail
    refine (big_any _ _ _ _ h.hc h.hm).mono ?_
    rw [decide_eq_false (by omega : ¬ (1048576 : Int) < (len : Int))]
    rintro e w0 ⟨rfl, rfl⟩
    clear hl
    go_wp2_with fail
    refine (drawVecJoin_any _ _ _ _ h).mono ?_
    rintro e w1 ⟨a, b, n, c, m, d, xs, ys, rfl, hn, hm, va_1, vb_1, hB1⟩
    go_wp2_with fail
    refine (drawCovers_any _ _ _ _ (h.below (Nat.le_refl _) hB1)).mono ?_
    rintro e w2 ⟨cv, b2, n2, c2, m2, d2, zs, ys2, rfl, hn2, hm2, vc_2, _, hb⟩
    have hB2 := hB1.trans (hb.mono hB1.size)
    have va_2 := va_1.below hb
    have vb_2 := vb_1.below hb
    clear hb va_1 vb_1 hB1
    go_wp2_with fail
    refine (vecJoin_impl _ _ _ _ _ _ _ _ _ va_2 vb_2).mono ?_
    rintro e w3 ⟨⟨v, rfl, hown⟩, hb⟩
    obtain ⟨jJ, kJ, rfl, vJ_3, _⟩ := owns_vec hown
    have hB3 := hB2.trans (hb.mono hB2.size)
    have va_3 := va_2.below hb
    have vb_3 := vb_2.below hb
    have vc_3 := vc_2.below hb
    clear hb hB2 va_2 vb_2 vc_2
    go_wp2_with fail
    refine (vecJoin_spec _ _ _ _ _ _ _ _ _ va_3 vb_3).mono ?_
    rintro e w4 ⟨⟨v, rfl, hown⟩, hb⟩
    obtain ⟨jS, kS, rfl, vS_4, _⟩ := owns_vec hown
    have hB4 := hB3.trans (hb.mono hB3.size)
    have va_4 := va_3.below hb
    have vb_4 := vb_3.below hb
    have vc_4 := vc_3.below hb
    have vJ_4 := vJ_3.below hb
    clear hb hB3 va_3 vb_3 vc_3 vJ_3
    go_wp2_with fail
    refine (sameVec_self _ _ _ _ _ _ _ vJ_4 vS_4).mono ?_
    rintro e w5 ⟨rfl, hb⟩
    have hB5 := hB4.trans (hb.mono hB4.size)
    have va_5 := va_4.below hb
    have vb_5 := vb_4.below hb
    have vc_5 := vc_4.below hb
    have vJ_5 := vJ_4.below hb
    have vS_5 := vS_4.below hb
    clear hb hB4 va_4 vb_4 vc_4 vJ_4 vS_4
    go_wp2_with fail
    clear vS_5
    refine (covers_impl _ _ _ _ _ _ _ _ _ vc_5 va_5).mono ?_
    rintro e w6 ⟨rfl, hb⟩
    have hB6 := hB5.trans (hb.mono hB5.size)
    have va_6 := va_5.below hb
    have vb_6 := vb_5.below hb
    have vc_6 := vc_5.below hb
    have vJ_6 := vJ_5.below hb
    clear hb hB5 va_5 vb_5 vc_5 vJ_5
    go_wp2_with fail
    refine (covers_spec _ _ _ _ _ _ _ _ _ vc_6 va_6).mono ?_
    rintro e w7 ⟨rfl, hb⟩
    have hB7 := hB6.trans (hb.mono hB6.size)
    have va_7 := va_6.below hb
    have vb_7 := vb_6.below hb
    have vc_7 := vc_6.below hb
    have vJ_7 := vJ_6.below hb
    clear hb hB6 va_6 vb_6 vc_6 vJ_6
    go_wp2_with fail
    by_cases ha : M1.vecOk xs = true
    · by_cases hb0 : M1.vecOk ys = true
      · by_cases hc0 : M1.vecOk zs = true
        · have hj := M1.joinL_ok ha hb0
          refine (vecOk_spec _ _ _ _ _ va_7).mono ?_
          rw [ha]
          rintro e w8 ⟨rfl, hb⟩
          have hB8 := hB7.trans (hb.mono hB7.size)
          have va_8 := va_7.below hb
          have vb_8 := vb_7.below hb
          have vc_8 := vc_7.below hb
          have vJ_8 := vJ_7.below hb
          clear hb hB7 va_7 vb_7 vc_7 vJ_7
          go_wp2_with fail
          refine (vecOk_spec _ _ _ _ _ vb_8).mono ?_
          rw [hb0]
          rintro e w9 ⟨rfl, hb⟩
          have hB9 := hB8.trans (hb.mono hB8.size)
          have va_9 := va_8.below hb
          have vb_9 := vb_8.below hb
          have vc_9 := vc_8.below hb
          have vJ_9 := vJ_8.below hb
          clear hb hB8 va_8 vb_8 vc_8 vJ_8
          go_wp2_with fail
          refine (vecOk_spec _ _ _ _ _ vc_9).mono ?_
          rw [hc0]
          rintro e w10 ⟨rfl, hb⟩
          have hB10 := hB9.trans (hb.mono hB9.size)
          have va_10 := va_9.below hb
          have vb_10 := vb_9.below hb
          have vc_10 := vc_9.below hb
          have vJ_10 := vJ_9.below hb
          clear hb hB9 va_9 vb_9 vc_9 vJ_9
          go_wp2_with fail
          have HA : Hid (M1.vecOk xs = true) := ha
          have HB : Hid (M1.vecOk ys = true) := hb0
          have HC : Hid (M1.vecOk zs = true) := hc0
          have HJ : Hid (M1.vecOk (M1.joinL xs ys) = true) := hj
          clear ha hb0 hc0 hj
          go_loopw [8] (fun i wr => ∃ x : Int, 1 ≤ x ∧ x ≤ 6 ∧ i = .int .i64 x ∧ Below w10.heap.size w10 wr) (fun i _ => 6 - (intOf i).toNat)
          case atStart => exact ⟨1, by omega, by omega, rfl, Below.refl _ _⟩
          case round =>
            obtain ⟨x, hx1, hx6, rfl, hbr⟩ := hrel
            have va_11 := va_10.below hbr
            have vb_11 := vb_10.below hbr
            have vc_11 := vc_10.below hbr
            have vJ_11 := vJ_10.below hbr
            have hB11 := hB10.trans (hbr.mono hB10.size)
            by_cases hxl : x ≤ 5
            · by_cases hlt : ofP xs x < ofP ys x
              · have e1 : ofP (M1.joinL xs ys) x = ofP ys x := by
                  have q1 := ofP_ok HA.out x
                  have q2 := ofP_ok HB.out x
                  have q3 := ofP_ok HJ.out x
                  have q4 := M1.joinL_lk HA.out HB.out x
                  omega
                go_wp2_with fail
                refine (vecOf_impl _ _ _ _ _ _ vJ_11).mono ?_
                rw [e1]
                rintro e w12 ⟨rfl, hb⟩
                have hK12 := hbr.trans (hb.mono hbr.size)
                have hB12 := hB11.trans (hb.mono hB11.size)
                have va_12 := va_11.below hb
                have vb_12 := vb_11.below hb
                have vc_12 := vc_11.below hb
                have vJ_12 := vJ_11.below hb
                clear hb hB11 va_11 vb_11 vc_11 vJ_11
                go_wp2_with fail
                refine (vecOf_impl _ _ _ _ _ _ va_12).mono ?_
                rintro e w13 ⟨rfl, hb⟩
                have hK13 := hK12.trans (hb.mono hK12.size)
                have hB13 := hB12.trans (hb.mono hB12.size)
                have va_13 := va_12.below hb
                have vb_13 := vb_12.below hb
                have vc_13 := vc_12.below hb
                have vJ_13 := vJ_12.below hb
                clear hb hB12 va_12 vb_12 vc_12 vJ_12
                go_wp2_with fail
                refine (vecOf_impl _ _ _ _ _ _ vb_13).mono ?_
                rintro e w14 ⟨rfl, hb⟩
                have hK14 := hK13.trans (hb.mono hK13.size)
                have hB14 := hB13.trans (hb.mono hB13.size)
                have va_14 := va_13.below hb
                have vb_14 := vb_13.below hb
                have vc_14 := vc_13.below hb
                have vJ_14 := vJ_13.below hb
                clear hb hB13 va_13 vb_13 vc_13 vJ_13
                go_wp2_with fail
                refine (vecOf_impl _ _ _ _ _ _ va_14).mono ?_
                rintro e w15 ⟨rfl, hb⟩
                have hK15 := hK14.trans (hb.mono hK14.size)
                have hB15 := hB14.trans (hb.mono hB14.size)
                have va_15 := va_14.below hb
                have vb_15 := vb_14.below hb
                have vc_15 := vc_14.below hb
                have vJ_15 := vJ_14.below hb
                clear hb hB14 va_14 vb_14 vc_14 vJ_14
                go_wp2_with fail
                refine (vecOf_spec _ _ _ _ _ _ va_15).mono ?_
                rintro e w16 ⟨rfl, hb⟩
                have hK16 := hK15.trans (hb.mono hK15.size)
                have hB16 := hB15.trans (hb.mono hB15.size)
                have va_16 := va_15.below hb
                have vb_16 := vb_15.below hb
                have vc_16 := vc_15.below hb
                have vJ_16 := vJ_15.below hb
                clear hb hB15 va_15 vb_15 vc_15 vJ_15
                go_wp2_with fail
                exact ⟨⟨x + 1, by omega, by omega, rfl, hK16⟩, by simp [intOf]; omega⟩
              · have e1 : ofP (M1.joinL xs ys) x = ofP xs x := by
                  have q1 := ofP_ok HA.out x
                  have q2 := ofP_ok HB.out x
                  have q3 := ofP_ok HJ.out x
                  have q4 := M1.joinL_lk HA.out HB.out x
                  omega
                go_wp2_with fail
                refine (vecOf_impl _ _ _ _ _ _ vJ_11).mono ?_
                rw [e1]
                rintro e w12 ⟨rfl, hb⟩
                have hK12 := hbr.trans (hb.mono hbr.size)
                have hB12 := hB11.trans (hb.mono hB11.size)
                have va_12 := va_11.below hb
                have vb_12 := vb_11.below hb
                have vc_12 := vc_11.below hb
                have vJ_12 := vJ_11.below hb
                clear hb hB11 va_11 vb_11 vc_11 vJ_11
                go_wp2_with fail
                refine (vecOf_impl _ _ _ _ _ _ va_12).mono ?_
                rintro e w13 ⟨rfl, hb⟩
                have hK13 := hK12.trans (hb.mono hK12.size)
                have hB13 := hB12.trans (hb.mono hB12.size)
                have va_13 := va_12.below hb
                have vb_13 := vb_12.below hb
                have vc_13 := vc_12.below hb
                have vJ_13 := vJ_12.below hb
                clear hb hB12 va_12 vb_12 vc_12 vJ_12
                go_wp2_with fail
                refine (vecOf_impl _ _ _ _ _ _ vb_13).mono ?_
                rintro e w14 ⟨rfl, hb⟩
                have hK14 := hK13.trans (hb.mono hK13.size)
                have hB14 := hB13.trans (hb.mono hB13.size)
                have va_14 := va_13.below hb
                have vb_14 := vb_13.below hb
                have vc_14 := vc_13.below hb
                have vJ_14 := vJ_13.below hb
                clear hb hB13 va_13 vb_13 vc_13 vJ_13
                go_wp2_with fail
                refine (vecOf_impl _ _ _ _ _ _ va_14).mono ?_
                rintro e w15 ⟨rfl, hb⟩
                have hK15 := hK14.trans (hb.mono hK14.size)
                have hB15 := hB14.trans (hb.mono hB14.size)
                have va_15 := va_14.below hb
                have vb_15 := vb_14.below hb
                have vc_15 := vc_14.below hb
                have vJ_15 := vJ_14.below hb
                clear hb hB14 va_14 vb_14 vc_14 vJ_14
                go_wp2_with fail
                refine (vecOf_spec _ _ _ _ _ _ va_15).mono ?_
                rintro e w16 ⟨rfl, hb⟩
                have hK16 := hK15.trans (hb.mono hK15.size)
                have hB16 := hB15.trans (hb.mono hB15.size)
                have va_16 := va_15.below hb
                have vb_16 := vb_15.below hb
                have vc_16 := vc_15.below hb
                have vJ_16 := vJ_15.below hb
                clear hb hB15 va_15 vb_15 vc_15 vJ_15
                go_wp2_with fail
                exact ⟨⟨x + 1, by omega, by omega, rfl, hK16⟩, by simp [intOf]; omega⟩
            · have hx6e : x = 6 := by omega
              have c1 : covP (M1.joinL xs ys) xs = true := (covP_ok HJ.out HA.out).trans (M1.cov_join HA.out HB.out).1
              have c2 : covP (M1.joinL xs ys) ys = true := (covP_ok HJ.out HB.out).trans (M1.cov_join HA.out HB.out).2
              have c3 : covP zs (M1.joinL xs ys) = (covP zs xs && covP zs ys) := by rw [covP_ok HC.out HJ.out, M1.cov_both HA.out HB.out HC.out, covP_ok HC.out HA.out, covP_ok HC.out HB.out]
              by_cases hA : covP zs xs = true
              · by_cases hB : covP zs ys = true
                · rw [hA, hB] at c3
                  go_wp2_with fail
                  refine (covers_impl _ _ _ _ _ _ _ _ _ vc_11 va_11).mono ?_
                  rw [hA]
                  rintro e w12 ⟨rfl, hb⟩
                  have hB12 := hB11.trans (hb.mono hB11.size)
                  have va_12 := va_11.below hb
                  have vb_12 := vb_11.below hb
                  have vc_12 := vc_11.below hb
                  have vJ_12 := vJ_11.below hb
                  clear hb hB11 va_11 vb_11 vc_11 vJ_11
                  go_wp2_with fail
                  refine (covers_impl _ _ _ _ _ _ _ _ _ vc_12 vb_12).mono ?_
                  rw [hB]
                  rintro e w13 ⟨rfl, hb⟩
                  have hB13 := hB12.trans (hb.mono hB12.size)
                  have va_13 := va_12.below hb
                  have vb_13 := vb_12.below hb
                  have vc_13 := vc_12.below hb
                  have vJ_13 := vJ_12.below hb
                  clear hb hB12 va_12 vb_12 vc_12 vJ_12
                  go_wp2_with fail
                  refine (vecJoin_impl _ _ _ _ _ _ _ _ _ vb_13 va_13).mono ?_
                  rintro e w14 ⟨⟨v, rfl, hown⟩, hb⟩
                  rw [M1.joinL_comm xs ys] at hown
                  obtain ⟨jX, kX, rfl, vX_14, _⟩ := owns_vec hown
                  have hB14 := hB13.trans (hb.mono hB13.size)
                  have va_14 := va_13.below hb
                  have vb_14 := vb_13.below hb
                  have vc_14 := vc_13.below hb
                  have vJ_14 := vJ_13.below hb
                  clear hb hB13 va_13 vb_13 vc_13 vJ_13
                  go_wp2_with fail
                  refine (sameVec_self _ _ _ _ _ _ _ vX_14 vJ_14).mono ?_
                  rintro e w15 ⟨rfl, hb⟩
                  have hB15 := hB14.trans (hb.mono hB14.size)
                  have va_15 := va_14.below hb
                  have vb_15 := vb_14.below hb
                  have vc_15 := vc_14.below hb
                  have vJ_15 := vJ_14.below hb
                  have vX_15 := vX_14.below hb
                  clear hb hB14 va_14 vb_14 vc_14 vJ_14 vX_14
                  go_wp2_with fail
                  clear vX_15
                  refine (vecJoin_impl _ _ _ _ _ _ _ _ _ vJ_15 va_15).mono ?_
                  rintro e w16 ⟨⟨v, rfl, hown⟩, hb⟩
                  rw [M1.joinL_again HA.out HB.out] at hown
                  obtain ⟨jY, kY, rfl, vY_16, _⟩ := owns_vec hown
                  have hB16 := hB15.trans (hb.mono hB15.size)
                  have va_16 := va_15.below hb
                  have vb_16 := vb_15.below hb
                  have vc_16 := vc_15.below hb
                  have vJ_16 := vJ_15.below hb
                  clear hb hB15 va_15 vb_15 vc_15 vJ_15
                  go_wp2_with fail
                  refine (sameVec_self _ _ _ _ _ _ _ vY_16 vJ_16).mono ?_
                  rintro e w17 ⟨rfl, hb⟩
                  have hB17 := hB16.trans (hb.mono hB16.size)
                  have va_17 := va_16.below hb
                  have vb_17 := vb_16.below hb
                  have vc_17 := vc_16.below hb
                  have vJ_17 := vJ_16.below hb
                  have vY_17 := vY_16.below hb
                  clear hb hB16 va_16 vb_16 vc_16 vJ_16 vY_16
                  go_wp2_with fail
                  clear vY_17
                  refine (covers_impl _ _ _ _ _ _ _ _ _ vJ_17 va_17).mono ?_
                  rw [c1]
                  rintro e w18 ⟨rfl, hb⟩
                  have hB18 := hB17.trans (hb.mono hB17.size)
                  have va_18 := va_17.below hb
                  have vb_18 := vb_17.below hb
                  have vc_18 := vc_17.below hb
                  have vJ_18 := vJ_17.below hb
                  clear hb hB17 va_17 vb_17 vc_17 vJ_17
                  go_wp2_with fail
                  refine (covers_impl _ _ _ _ _ _ _ _ _ vJ_18 vb_18).mono ?_
                  rw [c2]
                  rintro e w19 ⟨rfl, hb⟩
                  have hB19 := hB18.trans (hb.mono hB18.size)
                  have va_19 := va_18.below hb
                  have vb_19 := vb_18.below hb
                  have vc_19 := vc_18.below hb
                  have vJ_19 := vJ_18.below hb
                  clear hb hB18 va_18 vb_18 vc_18 vJ_18
                  go_wp2_with fail
                  refine (covers_impl _ _ _ _ _ _ _ _ _ vc_19 vJ_19).mono ?_
                  rw [c3]
                  rintro e w20 ⟨rfl, hb⟩
                  have hB20 := hB19.trans (hb.mono hB19.size)
                  have va_20 := va_19.below hb
                  have vb_20 := vb_19.below hb
                  have vc_20 := vc_19.below hb
                  have vJ_20 := vJ_19.below hb
                  clear hb hB19 va_19 vb_19 vc_19 vJ_19
                  go_wp2_with fail
                  refine (vecJoin_impl _ _ _ _ _ _ _ _ _ va_20 vb_20).mono ?_
                  rintro e w21 ⟨⟨v, rfl, hown⟩, hb⟩
                  obtain ⟨jP, kP, rfl, vP_21, _⟩ := owns_vec hown
                  have hB21 := hB20.trans (hb.mono hB20.size)
                  have va_21 := va_20.below hb
                  have vb_21 := vb_20.below hb
                  have vc_21 := vc_20.below hb
                  have vJ_21 := vJ_20.below hb
                  clear hb hB20 va_20 vb_20 vc_20 vJ_20
                  go_wp2_with fail
                  refine (vecJoin_impl _ _ _ _ _ _ _ _ _ vP_21 vc_21).mono ?_
                  rintro e w22 ⟨⟨v, rfl, hown⟩, hb⟩
                  rw [M1.joinL_assoc HA.out HB.out HC.out] at hown
                  obtain ⟨jQ, kQ, rfl, vQ_22, _⟩ := owns_vec hown
                  have hB22 := hB21.trans (hb.mono hB21.size)
                  have va_22 := va_21.below hb
                  have vb_22 := vb_21.below hb
                  have vc_22 := vc_21.below hb
                  have vJ_22 := vJ_21.below hb
                  have vP_22 := vP_21.below hb
                  clear hb hB21 va_21 vb_21 vc_21 vJ_21 vP_21
                  go_wp2_with fail
                  refine (vecJoin_impl _ _ _ _ _ _ _ _ _ vb_22 vc_22).mono ?_
                  rintro e w23 ⟨⟨v, rfl, hown⟩, hb⟩
                  obtain ⟨jR, kR, rfl, vR_23, _⟩ := owns_vec hown
                  have hB23 := hB22.trans (hb.mono hB22.size)
                  have va_23 := va_22.below hb
                  have vb_23 := vb_22.below hb
                  have vc_23 := vc_22.below hb
                  have vJ_23 := vJ_22.below hb
                  have vP_23 := vP_22.below hb
                  have vQ_23 := vQ_22.below hb
                  clear hb hB22 va_22 vb_22 vc_22 vJ_22 vP_22 vQ_22
                  go_wp2_with fail
                  refine (vecJoin_impl _ _ _ _ _ _ _ _ _ va_23 vR_23).mono ?_
                  rintro e w24 ⟨⟨v, rfl, hown⟩, hb⟩
                  obtain ⟨jZ, kZ, rfl, vZ_24, _⟩ := owns_vec hown
                  have hB24 := hB23.trans (hb.mono hB23.size)
                  have va_24 := va_23.below hb
                  have vb_24 := vb_23.below hb
                  have vc_24 := vc_23.below hb
                  have vJ_24 := vJ_23.below hb
                  have vP_24 := vP_23.below hb
                  have vQ_24 := vQ_23.below hb
                  have vR_24 := vR_23.below hb
                  clear hb hB23 va_23 vb_23 vc_23 vJ_23 vP_23 vQ_23 vR_23
                  go_wp2_with fail
                  refine (sameVec_self _ _ _ _ _ _ _ vQ_24 vZ_24).mono ?_
                  rintro e w25 ⟨rfl, hb⟩
                  have hB25 := hB24.trans (hb.mono hB24.size)
                  have va_25 := va_24.below hb
                  have vb_25 := vb_24.below hb
                  have vc_25 := vc_24.below hb
                  have vJ_25 := vJ_24.below hb
                  have vP_25 := vP_24.below hb
                  have vQ_25 := vQ_24.below hb
                  have vR_25 := vR_24.below hb
                  have vZ_25 := vZ_24.below hb
                  clear hb hB24 va_24 vb_24 vc_24 vJ_24 vP_24 vQ_24 vR_24 vZ_24
                  go_wp2_with fail
                  go_ret
                  exact ⟨rfl, hB25⟩
                · replace hB : covP zs ys = false := by simpa using hB
                  rw [hA, hB] at c3
                  go_wp2_with fail
                  refine (covers_impl _ _ _ _ _ _ _ _ _ vc_11 va_11).mono ?_
                  rw [hA]
                  rintro e w12 ⟨rfl, hb⟩
                  have hB12 := hB11.trans (hb.mono hB11.size)
                  have va_12 := va_11.below hb
                  have vb_12 := vb_11.below hb
                  have vc_12 := vc_11.below hb
                  have vJ_12 := vJ_11.below hb
                  clear hb hB11 va_11 vb_11 vc_11 vJ_11
                  go_wp2_with fail
                  refine (covers_impl _ _ _ _ _ _ _ _ _ vc_12 vb_12).mono ?_
                  rw [hB]
                  rintro e w13 ⟨rfl, hb⟩
                  have hB13 := hB12.trans (hb.mono hB12.size)
                  have va_13 := va_12.below hb
                  have vb_13 := vb_12.below hb
                  have vc_13 := vc_12.below hb
                  have vJ_13 := vJ_12.below hb
                  clear hb hB12 va_12 vb_12 vc_12 vJ_12
                  go_wp2_with fail
                  refine (vecJoin_impl _ _ _ _ _ _ _ _ _ vb_13 va_13).mono ?_
                  rintro e w14 ⟨⟨v, rfl, hown⟩, hb⟩
                  rw [M1.joinL_comm xs ys] at hown
                  obtain ⟨jX, kX, rfl, vX_14, _⟩ := owns_vec hown
                  have hB14 := hB13.trans (hb.mono hB13.size)
                  have va_14 := va_13.below hb
                  have vb_14 := vb_13.below hb
                  have vc_14 := vc_13.below hb
                  have vJ_14 := vJ_13.below hb
                  clear hb hB13 va_13 vb_13 vc_13 vJ_13
                  go_wp2_with fail
                  refine (sameVec_self _ _ _ _ _ _ _ vX_14 vJ_14).mono ?_
                  rintro e w15 ⟨rfl, hb⟩
                  have hB15 := hB14.trans (hb.mono hB14.size)
                  have va_15 := va_14.below hb
                  have vb_15 := vb_14.below hb
                  have vc_15 := vc_14.below hb
                  have vJ_15 := vJ_14.below hb
                  have vX_15 := vX_14.below hb
                  clear hb hB14 va_14 vb_14 vc_14 vJ_14 vX_14
                  go_wp2_with fail
                  clear vX_15
                  refine (vecJoin_impl _ _ _ _ _ _ _ _ _ vJ_15 va_15).mono ?_
                  rintro e w16 ⟨⟨v, rfl, hown⟩, hb⟩
                  rw [M1.joinL_again HA.out HB.out] at hown
                  obtain ⟨jY, kY, rfl, vY_16, _⟩ := owns_vec hown
                  have hB16 := hB15.trans (hb.mono hB15.size)
                  have va_16 := va_15.below hb
                  have vb_16 := vb_15.below hb
                  have vc_16 := vc_15.below hb
                  have vJ_16 := vJ_15.below hb
                  clear hb hB15 va_15 vb_15 vc_15 vJ_15
                  go_wp2_with fail
                  refine (sameVec_self _ _ _ _ _ _ _ vY_16 vJ_16).mono ?_
                  rintro e w17 ⟨rfl, hb⟩
                  have hB17 := hB16.trans (hb.mono hB16.size)
                  have va_17 := va_16.below hb
                  have vb_17 := vb_16.below hb
                  have vc_17 := vc_16.below hb
                  have vJ_17 := vJ_16.below hb
                  have vY_17 := vY_16.below hb
                  clear hb hB16 va_16 vb_16 vc_16 vJ_16 vY_16
                  go_wp2_with fail
                  clear vY_17
                  refine (covers_impl _ _ _ _ _ _ _ _ _ vJ_17 va_17).mono ?_
                  rw [c1]
                  rintro e w18 ⟨rfl, hb⟩
                  have hB18 := hB17.trans (hb.mono hB17.size)
                  have va_18 := va_17.below hb
                  have vb_18 := vb_17.below hb
                  have vc_18 := vc_17.below hb
                  have vJ_18 := vJ_17.below hb
                  clear hb hB17 va_17 vb_17 vc_17 vJ_17
                  go_wp2_with fail
                  refine (covers_impl _ _ _ _ _ _ _ _ _ vJ_18 vb_18).mono ?_
                  rw [c2]
                  rintro e w19 ⟨rfl, hb⟩
                  have hB19 := hB18.trans (hb.mono hB18.size)
                  have va_19 := va_18.below hb
                  have vb_19 := vb_18.below hb
                  have vc_19 := vc_18.below hb
                  have vJ_19 := vJ_18.below hb
                  clear hb hB18 va_18 vb_18 vc_18 vJ_18
                  go_wp2_with fail
                  refine (covers_impl _ _ _ _ _ _ _ _ _ vc_19 vJ_19).mono ?_
                  rw [c3]
                  rintro e w20 ⟨rfl, hb⟩
                  have hB20 := hB19.trans (hb.mono hB19.size)
                  have va_20 := va_19.below hb
                  have vb_20 := vb_19.below hb
                  have vc_20 := vc_19.below hb
                  have vJ_20 := vJ_19.below hb
                  clear hb hB19 va_19 vb_19 vc_19 vJ_19
                  go_wp2_with fail
                  refine (vecJoin_impl _ _ _ _ _ _ _ _ _ va_20 vb_20).mono ?_
                  rintro e w21 ⟨⟨v, rfl, hown⟩, hb⟩
                  obtain ⟨jP, kP, rfl, vP_21, _⟩ := owns_vec hown
                  have hB21 := hB20.trans (hb.mono hB20.size)
                  have va_21 := va_20.below hb
                  have vb_21 := vb_20.below hb
                  have vc_21 := vc_20.below hb
                  have vJ_21 := vJ_20.below hb
                  clear hb hB20 va_20 vb_20 vc_20 vJ_20
                  go_wp2_with fail
                  refine (vecJoin_impl _ _ _ _ _ _ _ _ _ vP_21 vc_21).mono ?_
                  rintro e w22 ⟨⟨v, rfl, hown⟩, hb⟩
                  rw [M1.joinL_assoc HA.out HB.out HC.out] at hown
                  obtain ⟨jQ, kQ, rfl, vQ_22, _⟩ := owns_vec hown
                  have hB22 := hB21.trans (hb.mono hB21.size)
                  have va_22 := va_21.below hb
                  have vb_22 := vb_21.below hb
                  have vc_22 := vc_21.below hb
                  have vJ_22 := vJ_21.below hb
                  have vP_22 := vP_21.below hb
                  clear hb hB21 va_21 vb_21 vc_21 vJ_21 vP_21
                  go_wp2_with fail
                  refine (vecJoin_impl _ _ _ _ _ _ _ _ _ vb_22 vc_22).mono ?_
                  rintro e w23 ⟨⟨v, rfl, hown⟩, hb⟩
                  obtain ⟨jR, kR, rfl, vR_23, _⟩ := owns_vec hown
                  have hB23 := hB22.trans (hb.mono hB22.size)
                  have va_23 := va_22.below hb
                  have vb_23 := vb_22.below hb
                  have vc_23 := vc_22.below hb
                  have vJ_23 := vJ_22.below hb
                  have vP_23 := vP_22.below hb
                  have vQ_23 := vQ_22.below hb
                  clear hb hB22 va_22 vb_22 vc_22 vJ_22 vP_22 vQ_22
                  go_wp2_with fail
                  refine (vecJoin_impl _ _ _ _ _ _ _ _ _ va_23 vR_23).mono ?_
                  rintro e w24 ⟨⟨v, rfl, hown⟩, hb⟩
                  obtain ⟨jZ, kZ, rfl, vZ_24, _⟩ := owns_vec hown
                  have hB24 := hB23.trans (hb.mono hB23.size)
                  have va_24 := va_23.below hb
                  have vb_24 := vb_23.below hb
                  have vc_24 := vc_23.below hb
                  have vJ_24 := vJ_23.below hb
                  have vP_24 := vP_23.below hb
                  have vQ_24 := vQ_23.below hb
                  have vR_24 := vR_23.below hb
                  clear hb hB23 va_23 vb_23 vc_23 vJ_23 vP_23 vQ_23 vR_23
                  go_wp2_with fail
                  refine (sameVec_self _ _ _ _ _ _ _ vQ_24 vZ_24).mono ?_
                  rintro e w25 ⟨rfl, hb⟩
                  have hB25 := hB24.trans (hb.mono hB24.size)
                  have va_25 := va_24.below hb
                  have vb_25 := vb_24.below hb
                  have vc_25 := vc_24.below hb
                  have vJ_25 := vJ_24.below hb
                  have vP_25 := vP_24.below hb
                  have vQ_25 := vQ_24.below hb
                  have vR_25 := vR_24.below hb
                  have vZ_25 := vZ_24.below hb
                  clear hb hB24 va_24 vb_24 vc_24 vJ_24 vP_24 vQ_24 vR_24 vZ_24
                  go_wp2_with fail
                  go_ret
                  exact ⟨rfl, hB25⟩
              · replace hA : covP zs xs = false := by simpa using hA
                rw [hA] at c3
                go_wp2_with fail
                refine (covers_impl _ _ _ _ _ _ _ _ _ vc_11 va_11).mono ?_
                rw [hA]
                rintro e w12 ⟨rfl, hb⟩
                have hB12 := hB11.trans (hb.mono hB11.size)
                have va_12 := va_11.below hb
                have vb_12 := vb_11.below hb
                have vc_12 := vc_11.below hb
                have vJ_12 := vJ_11.below hb
                clear hb hB11 va_11 vb_11 vc_11 vJ_11
                go_wp2_with fail
                refine (vecJoin_impl _ _ _ _ _ _ _ _ _ vb_12 va_12).mono ?_
                rintro e w13 ⟨⟨v, rfl, hown⟩, hb⟩
                rw [M1.joinL_comm xs ys] at hown
                obtain ⟨jX, kX, rfl, vX_13, _⟩ := owns_vec hown
                have hB13 := hB12.trans (hb.mono hB12.size)
                have va_13 := va_12.below hb
                have vb_13 := vb_12.below hb
                have vc_13 := vc_12.below hb
                have vJ_13 := vJ_12.below hb
                clear hb hB12 va_12 vb_12 vc_12 vJ_12
                go_wp2_with fail
                refine (sameVec_self _ _ _ _ _ _ _ vX_13 vJ_13).mono ?_
                rintro e w14 ⟨rfl, hb⟩
                have hB14 := hB13.trans (hb.mono hB13.size)
                have va_14 := va_13.below hb
                have vb_14 := vb_13.below hb
                have vc_14 := vc_13.below hb
                have vJ_14 := vJ_13.below hb
                have vX_14 := vX_13.below hb
                clear hb hB13 va_13 vb_13 vc_13 vJ_13 vX_13
                go_wp2_with fail
                clear vX_14
                refine (vecJoin_impl _ _ _ _ _ _ _ _ _ vJ_14 va_14).mono ?_
                rintro e w15 ⟨⟨v, rfl, hown⟩, hb⟩
                rw [M1.joinL_again HA.out HB.out] at hown
                obtain ⟨jY, kY, rfl, vY_15, _⟩ := owns_vec hown
                have hB15 := hB14.trans (hb.mono hB14.size)
                have va_15 := va_14.below hb
                have vb_15 := vb_14.below hb
                have vc_15 := vc_14.below hb
                have vJ_15 := vJ_14.below hb
                clear hb hB14 va_14 vb_14 vc_14 vJ_14
                go_wp2_with fail
                refine (sameVec_self _ _ _ _ _ _ _ vY_15 vJ_15).mono ?_
                rintro e w16 ⟨rfl, hb⟩
                have hB16 := hB15.trans (hb.mono hB15.size)
                have va_16 := va_15.below hb
                have vb_16 := vb_15.below hb
                have vc_16 := vc_15.below hb
                have vJ_16 := vJ_15.below hb
                have vY_16 := vY_15.below hb
                clear hb hB15 va_15 vb_15 vc_15 vJ_15 vY_15
                go_wp2_with fail
                clear vY_16
                refine (covers_impl _ _ _ _ _ _ _ _ _ vJ_16 va_16).mono ?_
                rw [c1]
                rintro e w17 ⟨rfl, hb⟩
                have hB17 := hB16.trans (hb.mono hB16.size)
                have va_17 := va_16.below hb
                have vb_17 := vb_16.below hb
                have vc_17 := vc_16.below hb
                have vJ_17 := vJ_16.below hb
                clear hb hB16 va_16 vb_16 vc_16 vJ_16
                go_wp2_with fail
                refine (covers_impl _ _ _ _ _ _ _ _ _ vJ_17 vb_17).mono ?_
                rw [c2]
                rintro e w18 ⟨rfl, hb⟩
                have hB18 := hB17.trans (hb.mono hB17.size)
                have va_18 := va_17.below hb
                have vb_18 := vb_17.below hb
                have vc_18 := vc_17.below hb
                have vJ_18 := vJ_17.below hb
                clear hb hB17 va_17 vb_17 vc_17 vJ_17
                go_wp2_with fail
                refine (covers_impl _ _ _ _ _ _ _ _ _ vc_18 vJ_18).mono ?_
                rw [c3]
                rintro e w19 ⟨rfl, hb⟩
                have hB19 := hB18.trans (hb.mono hB18.size)
                have va_19 := va_18.below hb
                have vb_19 := vb_18.below hb
                have vc_19 := vc_18.below hb
                have vJ_19 := vJ_18.below hb
                clear hb hB18 va_18 vb_18 vc_18 vJ_18
                go_wp2_with fail
                refine (vecJoin_impl _ _ _ _ _ _ _ _ _ va_19 vb_19).mono ?_
                rintro e w20 ⟨⟨v, rfl, hown⟩, hb⟩
                obtain ⟨jP, kP, rfl, vP_20, _⟩ := owns_vec hown
                have hB20 := hB19.trans (hb.mono hB19.size)
                have va_20 := va_19.below hb
                have vb_20 := vb_19.below hb
                have vc_20 := vc_19.below hb
                have vJ_20 := vJ_19.below hb
                clear hb hB19 va_19 vb_19 vc_19 vJ_19
                go_wp2_with fail
                refine (vecJoin_impl _ _ _ _ _ _ _ _ _ vP_20 vc_20).mono ?_
                rintro e w21 ⟨⟨v, rfl, hown⟩, hb⟩
                rw [M1.joinL_assoc HA.out HB.out HC.out] at hown
                obtain ⟨jQ, kQ, rfl, vQ_21, _⟩ := owns_vec hown
                have hB21 := hB20.trans (hb.mono hB20.size)
                have va_21 := va_20.below hb
                have vb_21 := vb_20.below hb
                have vc_21 := vc_20.below hb
                have vJ_21 := vJ_20.below hb
                have vP_21 := vP_20.below hb
                clear hb hB20 va_20 vb_20 vc_20 vJ_20 vP_20
                go_wp2_with fail
                refine (vecJoin_impl _ _ _ _ _ _ _ _ _ vb_21 vc_21).mono ?_
                rintro e w22 ⟨⟨v, rfl, hown⟩, hb⟩
                obtain ⟨jR, kR, rfl, vR_22, _⟩ := owns_vec hown
                have hB22 := hB21.trans (hb.mono hB21.size)
                have va_22 := va_21.below hb
                have vb_22 := vb_21.below hb
                have vc_22 := vc_21.below hb
                have vJ_22 := vJ_21.below hb
                have vP_22 := vP_21.below hb
                have vQ_22 := vQ_21.below hb
                clear hb hB21 va_21 vb_21 vc_21 vJ_21 vP_21 vQ_21
                go_wp2_with fail
                refine (vecJoin_impl _ _ _ _ _ _ _ _ _ va_22 vR_22).mono ?_
                rintro e w23 ⟨⟨v, rfl, hown⟩, hb⟩
                obtain ⟨jZ, kZ, rfl, vZ_23, _⟩ := owns_vec hown
                have hB23 := hB22.trans (hb.mono hB22.size)
                have va_23 := va_22.below hb
                have vb_23 := vb_22.below hb
                have vc_23 := vc_22.below hb
                have vJ_23 := vJ_22.below hb
                have vP_23 := vP_22.below hb
                have vQ_23 := vQ_22.below hb
                have vR_23 := vR_22.below hb
                clear hb hB22 va_22 vb_22 vc_22 vJ_22 vP_22 vQ_22 vR_22
                go_wp2_with fail
                refine (sameVec_self _ _ _ _ _ _ _ vQ_23 vZ_23).mono ?_
                rintro e w24 ⟨rfl, hb⟩
                have hB24 := hB23.trans (hb.mono hB23.size)
                have va_24 := va_23.below hb
                have vb_24 := vb_23.below hb
                have vc_24 := vc_23.below hb
                have vJ_24 := vJ_23.below hb
                have vP_24 := vP_23.below hb
                have vQ_24 := vQ_23.below hb
                have vR_24 := vR_23.below hb
                have vZ_24 := vZ_23.below hb
                clear hb hB23 va_23 vb_23 vc_23 vJ_23 vP_23 vQ_23 vR_23 vZ_23
                go_wp2_with fail
                go_ret
                exact ⟨rfl, hB24⟩
        · replace hc0 : M1.vecOk zs = false := by simpa using hc0
          refine (vecOk_spec _ _ _ _ _ va_7).mono ?_
          rw [ha]
          rintro e w8 ⟨rfl, hb⟩
          have hB8 := hB7.trans (hb.mono hB7.size)
          have va_8 := va_7.below hb
          have vb_8 := vb_7.below hb
          have vc_8 := vc_7.below hb
          have vJ_8 := vJ_7.below hb
          clear hb hB7 va_7 vb_7 vc_7 vJ_7
          go_wp2_with fail
          refine (vecOk_spec _ _ _ _ _ vb_8).mono ?_
          rw [hb0]
          rintro e w9 ⟨rfl, hb⟩
          have hB9 := hB8.trans (hb.mono hB8.size)
          have va_9 := va_8.below hb
          have vb_9 := vb_8.below hb
          have vc_9 := vc_8.below hb
          have vJ_9 := vJ_8.below hb
          clear hb hB8 va_8 vb_8 vc_8 vJ_8
          go_wp2_with fail
          refine (vecOk_spec _ _ _ _ _ vc_9).mono ?_
          rw [hc0]
          rintro e w10 ⟨rfl, hb⟩
          have hB10 := hB9.trans (hb.mono hB9.size)
          have va_10 := va_9.below hb
          have vb_10 := vb_9.below hb
          have vc_10 := vc_9.below hb
          have vJ_10 := vJ_9.below hb
          clear hb hB9 va_9 vb_9 vc_9 vJ_9
          go_wp2_with fail
          refine (vecJoin_spec _ _ _ _ _ _ _ _ _ va_10 vb_10).mono ?_
          rintro e w11 ⟨⟨v, rfl, hown⟩, hb⟩
          obtain ⟨jS, kS, rfl, vS_11, _⟩ := owns_vec hown
          have hB11 := hB10.trans (hb.mono hB10.size)
          have va_11 := va_10.below hb
          have vb_11 := vb_10.below hb
          have vc_11 := vc_10.below hb
          have vJ_11 := vJ_10.below hb
          clear hb hB10 va_10 vb_10 vc_10 vJ_10
          go_wp2_with fail
          refine (sameVec_self _ _ _ _ _ _ _ vJ_11 vS_11).mono ?_
          rintro e w12 ⟨rfl, hb⟩
          have hB12 := hB11.trans (hb.mono hB11.size)
          have va_12 := va_11.below hb
          have vb_12 := vb_11.below hb
          have vc_12 := vc_11.below hb
          have vJ_12 := vJ_11.below hb
          have vS_12 := vS_11.below hb
          clear hb hB11 va_11 vb_11 vc_11 vJ_11 vS_11
          go_wp2_with fail
          refine (vecOk_impl _ _ _ _ _ va_12).mono ?_
          rintro e w13 ⟨rfl, hb⟩
          have hB13 := hB12.trans (hb.mono hB12.size)
          have va_13 := va_12.below hb
          have vb_13 := vb_12.below hb
          have vc_13 := vc_12.below hb
          have vJ_13 := vJ_12.below hb
          have vS_13 := vS_12.below hb
          clear hb hB12 va_12 vb_12 vc_12 vJ_12 vS_12
          go_wp2_with fail
          refine (vecOk_spec _ _ _ _ _ va_13).mono ?_
          rintro e w14 ⟨rfl, hb⟩
          have hB14 := hB13.trans (hb.mono hB13.size)
          have va_14 := va_13.below hb
          have vb_14 := vb_13.below hb
          have vc_14 := vc_13.below hb
          have vJ_14 := vJ_13.below hb
          have vS_14 := vS_13.below hb
          clear hb hB13 va_13 vb_13 vc_13 vJ_13 vS_13
          go_wp2_with fail
          go_ret
          exact ⟨rfl, hB14⟩
      · replace hb0 : M1.vecOk ys = false := by simpa using hb0
        refine (vecOk_spec _ _ _ _ _ va_7).mono ?_
        rw [ha]
        rintro e w8 ⟨rfl, hb⟩
        have hB8 := hB7.trans (hb.mono hB7.size)
        have va_8 := va_7.below hb
        have vb_8 := vb_7.below hb
        have vc_8 := vc_7.below hb
        have vJ_8 := vJ_7.below hb
        clear hb hB7 va_7 vb_7 vc_7 vJ_7
        go_wp2_with fail
        refine (vecOk_spec _ _ _ _ _ vb_8).mono ?_
        rw [hb0]
        rintro e w9 ⟨rfl, hb⟩
        have hB9 := hB8.trans (hb.mono hB8.size)
        have va_9 := va_8.below hb
        have vb_9 := vb_8.below hb
        have vc_9 := vc_8.below hb
        have vJ_9 := vJ_8.below hb
        clear hb hB8 va_8 vb_8 vc_8 vJ_8
        go_wp2_with fail
        refine (vecJoin_spec _ _ _ _ _ _ _ _ _ va_9 vb_9).mono ?_
        rintro e w10 ⟨⟨v, rfl, hown⟩, hb⟩
        obtain ⟨jS, kS, rfl, vS_10, _⟩ := owns_vec hown
        have hB10 := hB9.trans (hb.mono hB9.size)
        have va_10 := va_9.below hb
        have vb_10 := vb_9.below hb
        have vc_10 := vc_9.below hb
        have vJ_10 := vJ_9.below hb
        clear hb hB9 va_9 vb_9 vc_9 vJ_9
        go_wp2_with fail
        refine (sameVec_self _ _ _ _ _ _ _ vJ_10 vS_10).mono ?_
        rintro e w11 ⟨rfl, hb⟩
        have hB11 := hB10.trans (hb.mono hB10.size)
        have va_11 := va_10.below hb
        have vb_11 := vb_10.below hb
        have vc_11 := vc_10.below hb
        have vJ_11 := vJ_10.below hb
        have vS_11 := vS_10.below hb
        clear hb hB10 va_10 vb_10 vc_10 vJ_10 vS_10
        go_wp2_with fail
        refine (vecOk_impl _ _ _ _ _ va_11).mono ?_
        rintro e w12 ⟨rfl, hb⟩
        have hB12 := hB11.trans (hb.mono hB11.size)
        have va_12 := va_11.below hb
        have vb_12 := vb_11.below hb
        have vc_12 := vc_11.below hb
        have vJ_12 := vJ_11.below hb
        have vS_12 := vS_11.below hb
        clear hb hB11 va_11 vb_11 vc_11 vJ_11 vS_11
        go_wp2_with fail
        refine (vecOk_spec _ _ _ _ _ va_12).mono ?_
        rintro e w13 ⟨rfl, hb⟩
        have hB13 := hB12.trans (hb.mono hB12.size)
        have va_13 := va_12.below hb
        have vb_13 := vb_12.below hb
        have vc_13 := vc_12.below hb
        have vJ_13 := vJ_12.below hb
        have vS_13 := vS_12.below hb
        clear hb hB12 va_12 vb_12 vc_12 vJ_12 vS_12
        go_wp2_with fail
        go_ret
        exact ⟨rfl, hB13⟩
    · replace ha : M1.vecOk xs = false := by simpa using ha
      refine (vecOk_spec _ _ _ _ _ va_7).mono ?_
      rw [ha]
      rintro e w8 ⟨rfl, hb⟩
      have hB8 := hB7.trans (hb.mono hB7.size)
      have va_8 := va_7.below hb
      have vb_8 := vb_7.below hb
      have vc_8 := vc_7.below hb
      have vJ_8 := vJ_7.below hb
      clear hb hB7 va_7 vb_7 vc_7 vJ_7
      go_wp2_with fail
      refine (vecJoin_spec _ _ _ _ _ _ _ _ _ va_8 vb_8).mono ?_
      rintro e w9 ⟨⟨v, rfl, hown⟩, hb⟩
      obtain ⟨jS, kS, rfl, vS_9, _⟩ := owns_vec hown
      have hB9 := hB8.trans (hb.mono hB8.size)
      have va_9 := va_8.below hb
      have vb_9 := vb_8.below hb
      have vc_9 := vc_8.below hb
      have vJ_9 := vJ_8.below hb
      clear hb hB8 va_8 vb_8 vc_8 vJ_8
      go_wp2_with fail
      refine (sameVec_self _ _ _ _ _ _ _ vJ_9 vS_9).mono ?_
      rintro e w10 ⟨rfl, hb⟩
      have hB10 := hB9.trans (hb.mono hB9.size)
      have va_10 := va_9.below hb
      have vb_10 := vb_9.below hb
      have vc_10 := vc_9.below hb
      have vJ_10 := vJ_9.below hb
      have vS_10 := vS_9.below hb
      clear hb hB9 va_9 vb_9 vc_9 vJ_9 vS_9
      go_wp2_with fail
      refine (vecOk_impl _ _ _ _ _ va_10).mono ?_
      rintro e w11 ⟨rfl, hb⟩
      have hB11 := hB10.trans (hb.mono hB10.size)
      have va_11 := va_10.below hb
      have vb_11 := vb_10.below hb
      have vc_11 := vc_10.below hb
      have vJ_11 := vJ_10.below hb
      have vS_11 := vS_10.below hb
      clear hb hB10 va_10 vb_10 vc_10 vJ_10 vS_10
      go_wp2_with fail
      refine (vecOk_spec _ _ _ _ _ va_11).mono ?_
      rintro e w12 ⟨rfl, hb⟩
      have hB12 := hB11.trans (hb.mono hB11.size)
      have va_12 := va_11.below hb
      have vb_12 := vb_11.below hb
      have vc_12 := vc_11.below hb
      have vJ_12 := vJ_11.below hb
      have vS_12 := vS_11.below hb
      clear hb hB11 va_11 vb_11 vc_11 vJ_11 vS_11
      go_wp2_with fail
      go_ret
      exact ⟨rfl, hB12⟩

theorem own : ownKnob Try.prog.godebug = none := by kernel_rfl
theorem laidOut : laidOutB Try.prog = true := by kernel_rfl
set_option maxRecDepth 100000 in
theorem lifted (os : Os) (started : os.Started) (H : Type) (enc : TypeId × Value → H) :
    ReturnsInHanded {} Try.checked os 3 .any (Rows.fnVectorsSpec.pre6 enc Try.prog Try.f3 Rows.fnVectorsRow.domain false) (Rows.fnVectorsSpec.post enc Try.prog Try.f3 false true false false) := by
  refine returnsInHanded_of_change (C := Try.checked) own started (by kernel_rfl) Try.func3
    (ChangeSpec.witness6 (enc := enc) (C := Try.checked) false ⟨#[], #[.slice none 0 0], []⟩ 8 (by kernel_rfl) (by kernel_rfl) (by kernel_rfl) (by kernel_rfl)) ?_
  intro W base args ds gs before hval0 hW hcnd _
  have hval : ∀ (j : Nat) t v, Try.f3.params[j]? = some t → args[j]? = some v → Value.okWide Try.prog W .any base t v := hval0
  have hW' := hW
  obtain ⟨p, q, hA0, hV, rfl, hfz, hnd⟩ := hW
  have hA : DataW.TrodAll enc Try.prog W 0 (fun _ => true) true Try.f3.params.toList args.toList ds p := hA0
  rw [Try.params3] at hA hval
  obtain ⟨v0, vs0, d0, ds0, p0, q0, hargs, rfl, rfl, h0, r0⟩ := trodAll_cons hA
  obtain ⟨rfl, rfl, rfl⟩ := trodAll_nil r0
  obtain rfl : args = #[v0] := by cases args; simp_all
  obtain ⟨rfl, rfl⟩ := trodVars_none hV
  have k0 := h0
  have lt0 : ∀ x ∈ p0, x.block < W.heap.size := by obtain ⟨m, hm⟩ := k0; exact DataW.trod_lt m _ _ _ hm
  obtain ⟨a0, l0, c0, rfl⟩ := okWide_slice Try.underlying22 (hval 0 22 v0 rfl rfl)
  obtain ⟨fu0, hf0⟩ := h0
  have by0 := open_bytes hf0
  clear hA0 hval0
  refine (walk a0 l0 c0 W by0).mono fun e W' ⟨he, bel⟩ => ?_
  subst he
  exact ⟨_, rfl, _, _, _, [], _, [], hW', trodAll_mk1 (shut_bool Try.underlying4 _), (trodAll_cons_mk (Below.trod laidOut (by kernel_rfl) (of_decide_eq_true (by kernel_rfl)) k0 bel lt0) trodAll_mk0), rfl, bel.frame _, fun h => by cases h⟩

theorem over : Rows.fnVectorsRow.holds Try.pinned (OpenSpec.ofChange Rows.fnVectorsSpec) :=
  OpenClaim.holds_of_wide 3 Try.f3 rfl rfl rfl rfl rfl rfl rfl ⟨rfl, rfl, rfl, rfl, rfl⟩ rfl rfl rfl rfl rfl (by kernel_rfl) Try.func3 (by kernel_rfl)
    (of_decide_eq_true (by kernel_rfl)) (by unfold Func.isWrapper; first | (rw [if_pos (by decide +kernel)]; kernel_rfl) | (rw [if_neg (by decide +kernel)]; exact ⟨rfl, rfl⟩))
    (fun os started H enc _ => lifted os started H enc)

theorem proved : Rows.FnVectorsSaid := over
end Go.Proofs.Ythnkpcoockhfcaa.fnVectors
namespace Go.Proofs.Ythnkpcoockhfcaa
theorem fnVectors_holds : Rows.FnVectorsSaid := fnVectors.proved
end Go.Proofs.Ythnkpcoockhfcaa
