/-
  For every slice of bytes the law FnJoined answers true: two drawn sets joined have the updates of both and no others, in whatever order; joined with itself a set is as it was; the vector of both is both vectors joined; the argument reads as it did. No condition.
-/
import Derived.Test.YtnoinkmpkklikaaZJoined33
import Derived.Test.YtnoinkmpkklikaaZJoined36
import Derived.Test.YtnoinkmpkklikaaZJoined47
import Derived.Test.YtnoinkmpkklikaaZJoined49
import Derived.Test.YtnoinkmpkklikaaZJoined38
import Derived.Test.YtnoinkmpkklikaaZJoined50
import Derived.Test.YtnoinkmpkklikaaZJoined51
import Derived.Test.YtnoinkmpkklikaaZJoined27
import Derived.Test.YtnoinkmpkklikaaZJoined22
import Derived.Test.YtnoinkmpkklikaaZJoined17
import Derived.ShutString
import Derived.ChangeOld
namespace Go.Proofs.Ytnoinkmpkklikaa.fnJoined
open Go.ChangeShapes Go.WideShapes Go.ChangeAt Go.RowKit
set_option linter.unusedVariables false
set_option linter.unusedSimpArgs false

set_option maxHeartbeats 40000000 in
set_option maxRecDepth 100000 in
theorem walk (av : Option Addr) (len cap : Nat) (w : World) (h : IsBytes w av len cap) :
    Calls Try.prog 3 #[.slice av len cap] w fun e w' => e = .returned (.bool true) ∧ Below w.heap.size w w' := by
  by_cases hl : (1048576 : Int) < (len : Int)
  · go_enter Try.func3, Try.ntmps3
    go_wp2_with fail
    refine (big_any _ _ _ _ h.hc h.hm).mono ?_
    rw [decide_eq_true hl]
    rintro e w0 ⟨rfl, rfl⟩
    go_wp2_with fail
    go_ret
    exact ⟨rfl, Below.refl _ _⟩
  · go_enter Try.func3, Try.ntmps3
    go_wp2_with fail
    refine (big_any _ _ _ _ h.hc h.hm).mono ?_
    rw [decide_eq_false (by omega : ¬ (1048576 : Int) < (len : Int))]
    rintro e w0 ⟨rfl, rfl⟩
    go_wp2_with fail
    refine (drawJoined_any _ _ _ _ h).mono ?_
    rintro e w1 ⟨bv, c, us, dv, dc, vs, rfl, hn, hm, hsh, hsv, u1, v1, B1⟩
    obtain ⟨n, hne⟩ : ∃ n, Hid (us.length = n) := ⟨_, rfl⟩
    obtain ⟨m, hme⟩ : ∃ m, Hid (vs.length = m) := ⟨_, rfl⟩
    rw [hne.out] at u1 hn ⊢
    rw [hme.out] at v1 hm ⊢
    obtain ⟨J, hJ⟩ : ∃ J, Hid (M1.jL us vs = J) := ⟨_, rfl⟩
    obtain ⟨ok, hok⟩ : ∃ b, Hid (M1.jOk us vs = b) := ⟨_, rfl⟩
    obtain ⟨q, hq⟩ : ∃ q, Hid (J.length = q) := ⟨_, rfl⟩
    have HJs : Hid (∀ i, i < q → (M1.up J i).s.size ≤ maxLen) := fun i hi => by
      rw [← hq.out] at hi
      have hx : M1.up J i ∈ us ∨ M1.up J i ∈ vs := by
        have hin := M1.up_mem hi
        rw [← hJ.out] at hin ⊢
        cases ok with
        | true => exact (M1.jL_mem hok.out _).1 hin
        | false =>
          have : M1.jL us vs = [] := by unfold M1.jL; rw [hok.out]; rfl
          rw [this] at hin; cases hin
      have : (M1.up J i).s.size ≤ 1000 := hx.elim (hsh _) (hsv _)
      unfold maxLen; omega
    go_wp2_with fail
    have c2 := joined_impl _ _ _ _ _ _ _ _ _ u1 v1
    rw [hJ.out, hok.out] at c2
    refine c2.mono ?_
    clear c2
    rintro e w2 ⟨⟨aJ, cJ, rfl, J2⟩, hb2⟩
    rw [hq.out] at J2 ⊢
    have j2 := J2.upds hq.out HJs.out
    have u2 := u1.below hb2
    have v2 := v1.below hb2
    have B2 := B1.trans (hb2.mono B1.size)
    clear u1 v1 hb2 B1 J2
    go_wp2_with fail
    have c3 := joined_spec _ _ _ _ _ _ _ _ _ u2 v2
    rw [hJ.out, hok.out] at c3
    refine c3.mono ?_
    clear c3
    rintro e w3 ⟨⟨aW, cW, rfl, X3⟩, hb3⟩
    rw [hq.out] at X3 ⊢
    have x3 := X3.upds hq.out HJs.out
    have u3 := u2.below hb3
    have v3 := v2.below hb3
    have j3 := j2.below hb3
    have B3 := B2.trans (hb3.mono B2.size)
    clear u2 v2 j2 X3 hb3 B2
    go_wp2_with fail
    have c4 := joined_impl _ _ _ _ _ _ _ _ _ v3 u3
    rw [M1.jL_comm us vs, M1.jOk_comm us vs, hJ.out, hok.out] at c4
    refine c4.mono ?_
    clear c4
    rintro e w4 ⟨⟨aK, cK, rfl, K4⟩, hb4⟩
    rw [hq.out] at K4 ⊢
    have k4 := K4.upds hq.out HJs.out
    have u4 := u3.below hb4
    have v4 := v3.below hb4
    have j4 := j3.below hb4
    have x4 := x3.below hb4
    have B4 := B3.trans (hb4.mono B3.size)
    clear u3 v3 j3 x3 K4 hb4 B3
    cases ok with
    | false =>
      obtain ⟨ag, hag⟩ : ∃ b, Hid (M1.agreeB us vs = b) := ⟨_, rfl⟩
      go_wp2_with fail
      refine (sameSet_self _ _ _ _ _ _ _ j4 x4).mono ?_
      rintro e w5 ⟨rfl, hb5⟩
      have u5 := u4.below hb5
      have v5 := v4.below hb5
      have j5 := j4.below hb5
      have x5 := x4.below hb5
      have k5 := k4.below hb5
      have B5 := B4.trans (hb5.mono B4.size)
      clear u4 v4 j4 x4 k4 hb5 B4
      go_wp2_with fail
      refine (sameSet_self _ _ _ _ _ _ _ k5 j5).mono ?_
      rintro e w6 ⟨rfl, hb6⟩
      have u6 := u5.below hb6
      have v6 := v5.below hb6
      have j6 := j5.below hb6
      have x6 := x5.below hb6
      have k6 := k5.below hb6
      have B6 := B5.trans (hb6.mono B5.size)
      clear u5 v5 j5 x5 k5 hb6 B5
      go_wp2_with fail
      have c7 := agree_impl _ _ _ _ _ _ _ _ _ u6 v6
      rw [hag.out] at c7
      refine c7.mono ?_
      clear c7
      rintro e w7 ⟨rfl, hb7⟩
      have u7 := u6.below hb7
      have v7 := v6.below hb7
      have j7 := j6.below hb7
      have x7 := x6.below hb7
      have k7 := k6.below hb7
      have B7 := B6.trans (hb7.mono B6.size)
      clear u6 v6 j6 x6 k6 hb7 B6
      go_wp2_with fail
      have c8 := agree_spec _ _ _ _ _ _ _ _ _ u7 v7
      rw [hag.out] at c8
      refine c8.mono ?_
      clear c8
      rintro e w8 ⟨rfl, hb8⟩
      have j8 := j7.below hb8
      have x8 := x7.below hb8
      have k8 := k7.below hb8
      have B8 := B7.trans (hb8.mono B7.size)
      clear u7 v7 j7 x7 k7 hb8 B7
      have hne : (ag != ag) = false := by simp
      go_wp2_with fail
      refine (sameSet_self _ _ _ _ _ _ _ j8 x8).mono ?_
      rintro e w9 ⟨rfl, hb9⟩
      have j9 := j8.below hb9
      have k9 := k8.below hb9
      have B9 := B8.trans (hb9.mono B8.size)
      go_wp2_with fail
      refine (sameSet_self _ _ _ _ _ _ _ k9 j9).mono ?_
      rintro e w10 ⟨rfl, hb10⟩
      have B10 := B9.trans (hb10.mono B9.size)
      go_wp2_with fail
      go_ret
      exact ⟨rfl, B10⟩
    | true =>
      obtain ⟨hag0, _⟩ := M1.jOk_true hok.out
      obtain ⟨hsu0, hsw0, hsJ0⟩ := M1.jL_ok hok.out
      rw [hJ.out] at hsJ0
      have hmem0 := M1.jL_mem hok.out
      rw [hJ.out] at hmem0
      have hag : Hid (M1.agreeB us vs = true) := hag0
      have hsu : Hid (M1.setOk us = true) := hsu0
      have hsw : Hid (M1.setOk vs = true) := hsw0
      have hsJ : Hid (M1.setOk J = true) := hsJ0
      have hmem : Hid (∀ x, x ∈ J ↔ x ∈ us ∨ x ∈ vs) := hmem0
      have hself : Hid (M1.jOk us us = true ∧ M1.jL us us = us) := M1.j_sub hsu0 hsu0 fun _ h => h
      have hagn : Hid (M1.jOk J vs = true ∧ M1.jL J vs = J) := M1.j_sub hsJ0 hsw0 fun x hx => (hmem0 x).2 (Or.inr hx)
      have hvec : Hid (M1.joinL (M1.vectorOf us) (M1.vectorOf vs) = M1.vectorOf J) := (M1.vector_join hsu0 hsw0 hsJ0 hmem0).symm
      have hin1 : Hid (∀ i, i < n → ∃ j, j < q ∧ M1.up J j = M1.up us i) := by
        have := M1.in_idx (a := us) (b := J) fun x hx => (hmem0 x).2 (Or.inl hx)
        rw [hne.out, hq.out] at this; exact this
      have hin2 : Hid (∀ i, i < m → ∃ j, j < q ∧ M1.up J j = M1.up vs i) := by
        have := M1.in_idx (a := vs) (b := J) fun x hx => (hmem0 x).2 (Or.inr hx)
        rw [hme.out, hq.out] at this; exact this
      have hin3 : Hid (∀ i, i < q → ∃ j, j < n + m ∧ M1.up (us ++ vs) j = M1.up J i) := by
        have := M1.in_idx (a := J) (b := us ++ vs) fun x hx => by simpa using (hmem0 x).1 hx
        rw [List.length_append, hne.out, hme.out, hq.out] at this; exact this
      clear hag0 hsu0 hsw0 hsJ0 hmem0
      go_wp2_with fail
      refine (sameSet_self _ _ _ _ _ _ _ j4 x4).mono ?_
      rintro e w5 ⟨rfl, hb5⟩
      have u5 := u4.below hb5
      have v5 := v4.below hb5
      have j5 := j4.below hb5
      have k5 := k4.below hb5
      have B5 := B4.trans (hb5.mono B4.size)
      clear u4 v4 j4 x4 k4 hb5 B4
      go_wp2_with fail
      refine (sameSet_self _ _ _ _ _ _ _ k5 j5).mono ?_
      rintro e w6 ⟨rfl, hb6⟩
      have u6 := u5.below hb6
      have v6 := v5.below hb6
      have j6 := j5.below hb6
      have B6 := B5.trans (hb6.mono B5.size)
      clear u5 v5 j5 k5 hb6 B5
      go_wp2_with fail
      have c7 := agree_impl _ _ _ _ _ _ _ _ _ u6 v6
      rw [hag.out] at c7
      refine c7.mono ?_
      clear c7
      rintro e w7 ⟨rfl, hb7⟩
      have u7 := u6.below hb7
      have v7 := v6.below hb7
      have j7 := j6.below hb7
      have B7 := B6.trans (hb7.mono B6.size)
      clear u6 v6 j6 hb7 B6
      go_wp2_with fail
      have c8 := agree_spec _ _ _ _ _ _ _ _ _ u7 v7
      rw [hag.out] at c8
      refine c8.mono ?_
      clear c8
      rintro e w8 ⟨rfl, hb8⟩
      have u8 := u7.below hb8
      have v8 := v7.below hb8
      have j8 := j7.below hb8
      have B8 := B7.trans (hb8.mono B7.size)
      clear u7 v7 j7 hb8 B7
      go_wp2_with fail
      have c9 := joined_impl _ _ _ _ _ _ _ _ _ u8 u8
      rw [hself.out.1, hself.out.2] at c9
      refine c9.mono ?_
      clear c9
      rintro e w9 ⟨⟨aS, cS, rfl, S9⟩, hb9⟩
      rw [hne.out] at S9 ⊢
      have s9 := S9.upds hne.out u8.htxt
      have u9 := u8.below hb9
      have v9 := v8.below hb9
      have j9 := j8.below hb9
      have B9 := B8.trans (hb9.mono B8.size)
      clear u8 v8 j8 S9 hb9 B8
      go_wp2_with fail
      have c10 := joined_impl _ _ _ _ _ _ _ _ _ j9 v9
      rw [hagn.out.1, hagn.out.2] at c10
      refine c10.mono ?_
      clear c10
      rintro e w10 ⟨⟨aA, cA, rfl, A10⟩, hb10⟩
      rw [hq.out] at A10 ⊢
      have a10 := A10.upds hq.out HJs.out
      have s10 := s9.below hb10
      have u10 := u9.below hb10
      have v10 := v9.below hb10
      have j10 := j9.below hb10
      have B10 := B9.trans (hb10.mono B9.size)
      clear u9 v9 j9 s9 A10 hb10 B9
      go_wp2_with fail
      refine (within_yes _ _ _ _ _ _ _ _ _ u10 j10 hin1).mono ?_
      rintro e w11 ⟨rfl, hb11⟩
      have a11 := a10.below hb11
      have s11 := s10.below hb11
      have u11 := u10.below hb11
      have v11 := v10.below hb11
      have j11 := j10.below hb11
      have B11 := B10.trans (hb11.mono B10.size)
      clear u10 v10 j10 s10 a10 hb11 B10
      go_wp2_with fail
      refine (within_yes _ _ _ _ _ _ _ _ _ v11 j11 hin2).mono ?_
      rintro e w12 ⟨rfl, hb12⟩
      have a12 := a11.below hb12
      have s12 := s11.below hb12
      have u12 := u11.below hb12
      have v12 := v11.below hb12
      have j12 := j11.below hb12
      have B12 := B11.trans (hb12.mono B11.size)
      clear u11 v11 j11 s11 a11 hb12 B11
      have own0 := ownsU_empty w12 51
      have hA : Below w12.heap.size w12 (w12.alloc (.cells #[] 51)) := (Below.refl _ _).alloc (Nat.le_refl _) _
      have HTX : Hid (∀ i, i < n + m → (M1.up (us ++ vs) i).s.size ≤ maxLen) := fun i hi => by
        have hin := M1.up_mem (us := us ++ vs) (i := i) (by rw [List.length_append, hne.out, hme.out]; exact hi)
        have : (M1.up (us ++ vs) i).s.size ≤ 1000 := (List.mem_append.1 hin).elim (hsh _) (hsv _)
        unfold maxLen; omega
      go_wp2_with (at_builtin; first | (refine wpList_appU (by rfl) _ _ rfl w12.heap.size _ _ n us hne.out rfl own13 _ _ _ vs rfl v13 (by omega) hs13 ?_; intro a14 c14 w14 own14 hb14) | (refine wpList_appU (by rfl) _ _ rfl w12.heap.size _ _ 0 [] rfl rfl own0 _ _ _ us rfl (u12.below hA) (by omega) (by simp) ?_; intro a13 c13 w13 own13 hb13; replace hb13 := hA.trans hb13; have hs13 := hb13.size; have v13 := v12.below hb13; simp only [Nat.zero_add, List.nil_append] at own13 ⊢))
      have hb14' : Below w12.heap.size w12 w14 := hb13.trans hb14
      have own14' : w14.ownsRow w12.heap.size 51 13 (.slice a14 (us ++ vs).length c14) (us ++ vs).length (ucL (us ++ vs)) := by
        rw [List.length_append, hne.out, hme.out]; exact own14
      obtain ⟨aQ, cQ, eQ, Q14⟩ := MU.of_owns own14'
      injection eQ with e1 e2 e3
      (try clear e2)
      subst e1
      subst e3
      have hll : (us ++ vs).length = n + m := by rw [List.length_append, hne.out, hme.out]
      rw [hll] at Q14
      have q14 := Q14.upds hll HTX.out
      clear Q14 own14' own14 own13 own0 hll
      have a14 := a12.below hb14'
      have s14 := s12.below hb14'
      have u14 := u12.below hb14'
      have v14 := v12.below hb14'
      have j14 := j12.below hb14'
      have B14 := B12.trans (hb14'.mono B12.size)
      clear u12 v12 j12 s12 a12 hb14' hb14 hb13 B12 hA v13 hs13
      refine (within_yes _ _ _ _ _ _ _ _ _ j14 q14 hin3).mono ?_
      rintro e w15 ⟨rfl, hb15⟩
      have a15 := a14.below hb15
      have s15 := s14.below hb15
      have u15 := u14.below hb15
      have v15 := v14.below hb15
      have j15 := j14.below hb15
      have B15 := B14.trans (hb15.mono B14.size)
      clear u14 v14 j14 s14 a14 hb15 B14 q14
      go_wp2_with fail
      have c16 := setOk_impl _ _ _ _ _ j15
      rw [hsJ.out] at c16
      refine c16.mono ?_
      clear c16
      rintro e w16 ⟨rfl, hb16⟩
      have a16 := a15.below hb16
      have s16 := s15.below hb16
      have u16 := u15.below hb16
      have v16 := v15.below hb16
      have j16 := j15.below hb16
      have B16 := B15.trans (hb16.mono B15.size)
      clear u15 v15 j15 s15 a15 hb16 B15
      go_wp2_with fail
      refine (sameSet_self _ _ _ _ _ _ _ s16 u16).mono ?_
      rintro e w17 ⟨rfl, hb17⟩
      have a17 := a16.below hb17
      have u17 := u16.below hb17
      have v17 := v16.below hb17
      have j17 := j16.below hb17
      have B17 := B16.trans (hb17.mono B16.size)
      clear u16 v16 j16 s16 a16 hb17 B16
      go_wp2_with fail
      refine (sameSet_self _ _ _ _ _ _ _ a17 j17).mono ?_
      rintro e w18 ⟨rfl, hb18⟩
      have u18 := u17.below hb18
      have v18 := v17.below hb18
      have j18 := j17.below hb18
      have B18 := B17.trans (hb18.mono B17.size)
      clear u17 v17 j17 a17 hb18 B17
      obtain ⟨VU, hVU⟩ : ∃ V, Hid (M1.vectorOf us = V) := ⟨_, rfl⟩
      obtain ⟨VV, hVV⟩ : ∃ V, Hid (M1.vectorOf vs = V) := ⟨_, rfl⟩
      obtain ⟨VJ, hVJ⟩ : ∃ V, Hid (M1.vectorOf J = V) := ⟨_, rfl⟩
      have hvec2 : Hid (M1.joinL VU VV = VJ) := (by have q := hvec.out; rw [hVU.out, hVV.out, hVJ.out] at q; exact q : M1.joinL VU VV = VJ)
      clear hvec
      go_wp2_with fail
      have c19 := vectorOf_impl _ _ _ _ _ j18
      rw [hVJ.out] at c19
      refine c19.mono ?_
      clear c19
      rintro e w19 ⟨⟨x, rfl, own19⟩, hb19⟩
      obtain ⟨a19, c19, rfl, J19⟩ := MV.of_owns own19
      have y19 := J19.vec rfl
      have u19 := u18.below hb19
      have v19 := v18.below hb19
      have B19 := B18.trans (hb19.mono B18.size)
      clear u18 v18 j18 hb19 B18 own19 J19
      go_wp2_with fail
      have c20 := vectorOf_impl _ _ _ _ _ u19
      rw [hVU.out] at c20
      refine c20.mono ?_
      clear c20
      rintro e w20 ⟨⟨x, rfl, own20⟩, hb20⟩
      obtain ⟨a20, c20, rfl, U20⟩ := MV.of_owns own20
      have x20 := U20.vec rfl
      have y20 := y19.below hb20
      have v20 := v19.below hb20
      have B20 := B19.trans (hb20.mono B19.size)
      clear u19 v19 y19 hb20 B19 own20 U20
      go_wp2_with fail
      have c21 := vectorOf_impl _ _ _ _ _ v20
      rw [hVV.out] at c21
      refine c21.mono ?_
      clear c21
      rintro e w21 ⟨⟨x, rfl, own21⟩, hb21⟩
      obtain ⟨a21, c21, rfl, V21⟩ := MV.of_owns own21
      have z21 := V21.vec rfl
      have x21 := x20.below hb21
      have y21 := y20.below hb21
      have B21 := B20.trans (hb21.mono B20.size)
      clear v20 y20 x20 hb21 B20 own21 V21
      go_wp2_with fail
      have c22 := vecJoin_impl _ _ _ _ _ _ _ _ _ x21 z21
      rw [hvec2.out] at c22
      refine c22.mono ?_
      clear c22
      rintro e w22 ⟨⟨x, rfl, own22⟩, hb22⟩
      obtain ⟨a22, c22, rfl, K22⟩ := MV.of_owns own22
      have k22 := K22.vec rfl
      have y22 := y21.below hb22
      have B22 := B21.trans (hb22.mono B21.size)
      clear z21 x21 y21 hb22 B21 own22 K22
      go_wp2_with fail
      refine (sameVec_self _ _ _ _ _ _ _ y22 k22).mono ?_
      rintro e w23 ⟨rfl, hb23⟩
      have B23 := B22.trans (hb23.mono B22.size)
      go_wp2_with fail
      go_ret
      exact ⟨rfl, B23⟩

theorem own : ownKnob Try.prog.godebug = none := by kernel_rfl
theorem laidOut : laidOutB Try.prog = true := by kernel_rfl
set_option maxRecDepth 100000 in
theorem lifted (os : Os) (started : os.Started) (H : Type) (enc : TypeId × Value → H) :
    ReturnsInHanded {} Try.checked os 3 .any (Rows.fnJoinedSpec.pre6 enc Try.prog Try.f3 Rows.fnJoinedRow.domain false) (Rows.fnJoinedSpec.post enc Try.prog Try.f3 false true false false) := by
  refine returnsInHanded_of_change (C := Try.checked) own started (by kernel_rfl) Try.func3
    (ChangeSpec.witness6 (enc := enc) (C := Try.checked) false ⟨#[], #[.slice none 0 0], []⟩ 8 (by kernel_rfl) (by kernel_rfl) (by kernel_rfl) (by kernel_rfl)) ?_
  intro W base args ds gs before hval0 hW hcnd _
  have hval : ∀ (j : Nat) t v, Try.f3.params[j]? = some t → args[j]? = some v → Value.okWide Try.prog W .any base t v := hval0
  have hW' := hW
  obtain ⟨p, q, hA0, hV, rfl, hfz, hnd⟩ := hW
  have hA : DataW.TrodAll enc Try.prog W 0 (fun _ => true) true Try.f3.params.toList args.toList ds p := hA0
  rw [Try.params3] at hA hval
  obtain ⟨v0, vs0, d0, ds0, p0, q0, hargs, rfl, rfl, h0, r0⟩ := trodAll_cons hA
  obtain ⟨rfl, rfl, rfl⟩ := trodAll_nil r0
  obtain rfl : args = #[v0] := by cases args; simp_all
  obtain ⟨rfl, rfl⟩ := trodVars_none hV
  have k0 := h0
  have lt0 : ∀ x ∈ p0, x.block < W.heap.size := by obtain ⟨m, hm⟩ := k0; exact DataW.trod_lt m _ _ _ hm
  obtain ⟨a0, l0, c0, rfl⟩ := okWide_slice Try.underlying22 (hval 0 22 v0 rfl rfl)
  obtain ⟨fu0, hf0⟩ := h0
  have by0 := open_bytes hf0
  clear hA0 hval0
  refine (walk a0 l0 c0 W by0).mono fun e W' ⟨he, bel⟩ => ?_
  subst he
  exact ⟨_, rfl, _, _, _, [], _, [], hW', trodAll_mk1 (shut_bool Try.underlying4 _), (trodAll_cons_mk (Below.trod laidOut (by kernel_rfl) (of_decide_eq_true (by kernel_rfl)) k0 bel lt0) trodAll_mk0), rfl, bel.frame _, fun h => by cases h⟩

theorem over : Rows.fnJoinedRow.holds Try.pinned (OpenSpec.ofChange Rows.fnJoinedSpec) :=
  OpenClaim.holds_of_wide 3 Try.f3 rfl rfl rfl rfl rfl rfl rfl ⟨rfl, rfl, rfl, rfl, rfl⟩ rfl rfl rfl rfl rfl (by kernel_rfl) Try.func3 (by kernel_rfl)
    (of_decide_eq_true (by kernel_rfl)) (by unfold Func.isWrapper; first | (rw [if_pos (by decide +kernel)]; kernel_rfl) | (rw [if_neg (by decide +kernel)]; exact ⟨rfl, rfl⟩))
    (fun os started H enc _ => lifted os started H enc)

theorem proved : Rows.FnJoinedSaid := over
end Go.Proofs.Ytnoinkmpkklikaa.fnJoined
namespace Go.Proofs.Ytnoinkmpkklikaa
theorem fnJoined_holds : Rows.FnJoinedSaid := fnJoined.proved
end Go.Proofs.Ytnoinkmpkklikaa
