/-
  For every slice of bytes the law FnTaken answers true: what is taken of drawn updates is all there was, and what came next of its region; what was there, taken again, changes nothing; what another drawn set has that agrees, taken, is both joined; the argument reads as it did. No condition.
-/
import Derived.Test.YtnoinkmpkklikaaZTaken31
import Derived.Test.YtnoinkmpkklikaaZTaken34
import Derived.Test.YtnoinkmpkklikaaZTaken45
import Derived.Test.YtnoinkmpkklikaaZTaken51
import Derived.Test.YtnoinkmpkklikaaZTaken15
import Derived.ShutString
import Derived.ChangeOld
namespace Go.Proofs.Ytnoinkmpkklikaa.fnTaken
open Go.ChangeShapes Go.WideShapes Go.ChangeAt Go.RowKit
set_option linter.unusedVariables false
set_option linter.unusedSimpArgs false

set_option maxHeartbeats 40000000 in
set_option maxRecDepth 100000 in
theorem walk (av : Option Addr) (len cap : Nat) (w : World) (h : IsBytes w av len cap) :
    Calls Try.prog 4 #[.slice av len cap] w fun e w' => e = .returned (.bool true) ∧ Below w.heap.size w w' := by
  by_cases hl : (1048576 : Int) < (len : Int)
  · go_enter Try.func4, Try.ntmps4
    go_wp2_with fail
    refine (big_any _ _ _ _ h.hc h.hm).mono ?_
    rw [decide_eq_true hl]
    rintro e w0 ⟨rfl, rfl⟩
    go_wp2_with fail
    go_ret
    exact ⟨rfl, Below.refl _ _⟩
  · go_enter Try.func4, Try.ntmps4
    go_wp2_with fail
    refine (big_any _ _ _ _ h.hc h.hm).mono ?_
    rw [decide_eq_false (by omega : ¬ (1048576 : Int) < (len : Int))]
    rintro e w0 ⟨rfl, rfl⟩
    go_wp2_with fail
    refine (drawTaken_any _ _ _ _ h).mono ?_
    rintro e w1 ⟨bv, c, us, dv, dc, vs, rfl, hn, hm, hsh, hsv, u1, v1, B1⟩
    obtain ⟨n, hne⟩ : ∃ n, Hid (us.length = n) := ⟨_, rfl⟩
    obtain ⟨m, hme⟩ : ∃ m, Hid (vs.length = m) := ⟨_, rfl⟩
    rw [hne.out] at u1 hn ⊢
    rw [hme.out] at v1 hm ⊢
    obtain ⟨J, hJ⟩ : ∃ J, Hid (M1.tL us vs = J) := ⟨_, rfl⟩
    obtain ⟨ok, hok⟩ : ∃ b, Hid (M1.tOk us vs = b) := ⟨_, rfl⟩
    obtain ⟨q, hq⟩ : ∃ q, Hid (J.length = q) := ⟨_, rfl⟩
    have HJs : Hid (∀ i, i < q → (M1.up J i).s.size ≤ maxLen) := fun i hi => by
      rw [← hq.out] at hi
      have hx : M1.up J i ∈ us ∨ M1.up J i ∈ vs := by
        have hin := M1.up_mem hi
        rw [← hJ.out] at hin ⊢
        cases ok with
        | true => exact (M1.tOk_true hok.out).2.2.2.2 _ hin
        | false =>
          have : M1.tL us vs = [] := by unfold M1.tL; rw [hok.out]; rfl
          rw [this] at hin; cases hin
      have : (M1.up J i).s.size ≤ 1000 := hx.elim (hsh _) (hsv _)
      unfold maxLen; omega
    go_wp2_with fail
    have c2 := taken_impl _ _ _ _ _ _ _ _ _ u1 v1
    rw [hJ.out, hok.out] at c2
    refine c2.mono ?_
    clear c2
    rintro e w2 ⟨⟨aT, cT, rfl, J2⟩, hb2⟩
    rw [hq.out] at J2 ⊢
    have j2 := J2.upds hq.out HJs.out
    have u2 := u1.below hb2
    have v2 := v1.below hb2
    have B2 := B1.trans (hb2.mono B1.size)
    clear u1 v1 hb2 B1 J2
    go_wp2_with fail
    have c3 := taken_spec _ _ _ _ _ _ _ _ _ u2 v2
    rw [hJ.out, hok.out] at c3
    refine c3.mono ?_
    clear c3
    rintro e w3 ⟨⟨aW, cW, rfl, X3⟩, hb3⟩
    rw [hq.out] at X3 ⊢
    have x3 := X3.upds hq.out HJs.out
    have u3 := u2.below hb3
    have v3 := v2.below hb3
    have j3 := j2.below hb3
    have B3 := B2.trans (hb3.mono B2.size)
    clear u2 v2 j2 X3 hb3 B2
    cases ok with
    | false =>
      go_wp2_with fail
      refine (sameSet_self _ _ _ _ _ _ _ j3 x3).mono ?_
      rintro e w4 ⟨rfl, hb4⟩
      have BK := B3.trans (hb4.mono B3.size)
      clear u3 v3 j3 x3 hb4 B3 HJs
      go_wp2_with fail
      refine (drawAgree_any _ _ _ _ (h.below (Nat.le_refl _) BK)).mono ?_
      rintro e w31 ⟨bv2, c2, us2, dv2, dc2, vs2, rfl, hn2, hm2, hsh2, hsv2, u31, v31, hb31⟩
      have B31 := BK.trans (hb31.mono BK.size)
      clear BK hb31
      obtain ⟨n2, hne2⟩ : ∃ n, Hid (us2.length = n) := ⟨_, rfl⟩
      obtain ⟨m2, hme2⟩ : ∃ m, Hid (vs2.length = m) := ⟨_, rfl⟩
      rw [hne2.out] at u31 hn2 ⊢
      rw [hme2.out] at v31 hm2 ⊢
      obtain ⟨J, hJ⟩ : ∃ J, Hid (M1.jL us2 vs2 = J) := ⟨_, rfl⟩
      obtain ⟨jk, hjk⟩ : ∃ b, Hid (M1.jOk us2 vs2 = b) := ⟨_, rfl⟩
      obtain ⟨q2, hq2⟩ : ∃ q, Hid (J.length = q) := ⟨_, rfl⟩
      go_wp2_with fail
      have c32 := joined_impl _ _ _ _ _ _ _ _ _ u31 v31
      rw [hJ.out, hjk.out] at c32
      refine c32.mono ?_
      clear c32
      rintro e w32 ⟨⟨aJ, cJ, rfl, J32⟩, hb32⟩
      rw [hq2.out] at J32 ⊢
      have u32 := u31.below hb32
      have v32 := v31.below hb32
      have B32 := B31.trans (hb32.mono B31.size)
      clear u31 v31 hb32 B31
      cases jk with
      | false =>
        clear J32
        go_wp2_with fail
        refine (taken_impl _ _ _ _ _ _ _ _ _ u32 v32).mono ?_
        rintro e w33 ⟨⟨aU, cU, rfl, U33⟩, hb33⟩
        have B33 := B32.trans (hb33.mono B32.size)
        clear U33
        go_wp2_with fail
        go_ret
        exact ⟨rfl, B33⟩
      | true =>
        have HJs : Hid (∀ i, i < q2 → (M1.up J i).s.size ≤ maxLen) := fun i hi => by
          rw [← hq2.out] at hi
          have hin := M1.up_mem hi
          have hx : M1.up J i ∈ us2 ∨ M1.up J i ∈ vs2 := by
            rw [← hJ.out] at hin ⊢
            exact (M1.jL_mem hjk.out _).1 hin
          have : (M1.up J i).s.size ≤ 1000 := hx.elim (hsh2 _) (hsv2 _)
          unfold maxLen; omega
        have htj : Hid (M1.tOk us2 vs2 = true ∧ M1.tL us2 vs2 = J) := (by
          have q := M1.t_join hjk.out
          rw [hJ.out] at q; exact q : M1.tOk us2 vs2 = true ∧ M1.tL us2 vs2 = J)
        go_wp2_with fail
        have c33 := taken_impl _ _ _ _ _ _ _ _ _ u32 v32
        rw [htj.out.1, htj.out.2] at c33
        refine c33.mono ?_
        clear c33
        rintro e w33 ⟨⟨aU, cU, rfl, U33⟩, hb33⟩
        rw [hq2.out] at U33 ⊢
        have x33 := U33.upds hq2.out HJs.out
        have j33 := (J32.upds hq2.out HJs.out).below hb33
        have B33 := B32.trans (hb33.mono B32.size)
        clear U33 J32 u32 v32 B32 hb33
        go_wp2_with fail
        refine (sameSet_self _ _ _ _ _ _ _ x33 j33).mono ?_
        rintro e w34 ⟨rfl, hb34⟩
        have B34 := B33.trans (hb34.mono B33.size)
        go_wp2_with fail
        go_ret
        exact ⟨rfl, B34⟩
    | true =>
      obtain ⟨hs0, _, hsJ0, hsub0, hmem0⟩ := M1.tOk_true hok.out
      rw [hJ.out] at hsJ0 hsub0 hmem0
      have hsJ : Hid (M1.setOk J = true) := hsJ0
      have hagn : Hid (M1.tOk J us = true ∧ M1.tL J us = J) := M1.t_again hsJ0 hs0 hsub0
      have hin1 : Hid (∀ i, i < n → ∃ j, j < q ∧ M1.up J j = M1.up us i) := by
        have := M1.in_idx (a := us) (b := J) hsub0
        rw [hne.out, hq.out] at this; exact this
      have hin3 : Hid (∀ i, i < q → ∃ j, j < n + m ∧ M1.up (us ++ vs) j = M1.up J i) := by
        have := M1.in_idx (a := J) (b := us ++ vs) fun x hx => by simpa using hmem0 x hx
        rw [List.length_append, hne.out, hme.out, hq.out] at this; exact this
      clear hs0 hsJ0 hsub0 hmem0
      go_wp2_with fail
      refine (sameSet_self _ _ _ _ _ _ _ j3 x3).mono ?_
      rintro e w4 ⟨rfl, hb4⟩
      have u4 := u3.below hb4
      have v4 := v3.below hb4
      have j4 := j3.below hb4
      have B4 := B3.trans (hb4.mono B3.size)
      clear u3 v3 j3 x3 hb4 B3
      go_wp2_with fail
      have c5 := taken_impl _ _ _ _ _ _ _ _ _ j4 u4
      rw [hagn.out.1, hagn.out.2] at c5
      refine c5.mono ?_
      clear c5
      rintro e w5 ⟨⟨aA, cA, rfl, A5⟩, hb5⟩
      rw [hq.out] at A5 ⊢
      have a5 := A5.upds hq.out HJs.out
      have u5 := u4.below hb5
      have v5 := v4.below hb5
      have j5 := j4.below hb5
      have B5 := B4.trans (hb5.mono B4.size)
      clear u4 v4 j4 A5 hb5 B4
      go_wp2_with fail
      have c6 := setOk_impl _ _ _ _ _ j5
      rw [hsJ.out] at c6
      refine c6.mono ?_
      clear c6
      rintro e w6 ⟨rfl, hb6⟩
      have a6 := a5.below hb6
      have u6 := u5.below hb6
      have v6 := v5.below hb6
      have j6 := j5.below hb6
      have B6 := B5.trans (hb6.mono B5.size)
      clear u5 v5 j5 a5 hb6 B5
      go_wp2_with fail
      refine (within_yes _ _ _ _ _ _ _ _ _ u6 j6 hin1).mono ?_
      rintro e w12 ⟨rfl, hb12⟩
      have a12 := a6.below hb12
      have u12 := u6.below hb12
      have v12 := v6.below hb12
      have j12 := j6.below hb12
      have B12 := B6.trans (hb12.mono B6.size)
      clear u6 v6 j6 a6 hb12 B6
      have own0 := ownsU_empty w12 51
      have hA : Below w12.heap.size w12 (w12.alloc (.cells #[] 51)) := (Below.refl _ _).alloc (Nat.le_refl _) _
      have HTX : Hid (∀ i, i < n + m → (M1.up (us ++ vs) i).s.size ≤ maxLen) := fun i hi => by
        have hin := M1.up_mem (us := us ++ vs) (i := i) (by rw [List.length_append, hne.out, hme.out]; exact hi)
        have : (M1.up (us ++ vs) i).s.size ≤ 1000 := (List.mem_append.1 hin).elim (hsh _) (hsv _)
        unfold maxLen; omega
      go_wp2_with (at_builtin; first | (refine wpList_appU (by rfl) _ _ rfl w12.heap.size _ _ n us hne.out rfl own13 _ _ _ vs rfl v13 (by omega) hs13 ?_; intro a14 c14 w14 own14 hb14) | (refine wpList_appU (by rfl) _ _ rfl w12.heap.size _ _ 0 [] rfl rfl own0 _ _ _ us rfl (u12.below hA) (by omega) (by simp) ?_; intro a13 c13 w13 own13 hb13; replace hb13 := hA.trans hb13; have hs13 := hb13.size; have v13 := v12.below hb13; simp only [Nat.zero_add, List.nil_append] at own13 ⊢))
      have hb14' : Below w12.heap.size w12 w14 := hb13.trans hb14
      have own14' : w14.ownsRow w12.heap.size 51 13 (.slice a14 (us ++ vs).length c14) (us ++ vs).length (ucL (us ++ vs)) := by
        rw [List.length_append, hne.out, hme.out]; exact own14
      obtain ⟨aQ, cQ, eQ, Q14⟩ := MU.of_owns own14'
      injection eQ with e1 e2 e3
      (try clear e2)
      subst e1
      subst e3
      have hll : (us ++ vs).length = n + m := by rw [List.length_append, hne.out, hme.out]
      rw [hll] at Q14
      have q14 := Q14.upds hll HTX.out
      clear Q14 own14' own14 own13 own0 hll
      have a14 := a12.below hb14'
      have j14 := j12.below hb14'
      have B14 := B12.trans (hb14'.mono B12.size)
      clear u12 v12 j12 a12 hb14' hb14 hb13 B12 hA v13 hs13
      refine (within_yes _ _ _ _ _ _ _ _ _ j14 q14 hin3).mono ?_
      rintro e w15 ⟨rfl, hb15⟩
      have a15 := a14.below hb15
      have j15 := j14.below hb15
      have B15 := B14.trans (hb15.mono B14.size)
      clear j14 a14 hb15 B14 q14
      go_wp2_with fail
      refine (sameSet_self _ _ _ _ _ _ _ a15 j15).mono ?_
      rintro e w16 ⟨rfl, hb16⟩
      have BK := B15.trans (hb16.mono B15.size)
      clear a15 j15 hb16 B15 HJs
      go_wp2_with fail
      refine (drawAgree_any _ _ _ _ (h.below (Nat.le_refl _) BK)).mono ?_
      rintro e w31 ⟨bv2, c2, us2, dv2, dc2, vs2, rfl, hn2, hm2, hsh2, hsv2, u31, v31, hb31⟩
      have B31 := BK.trans (hb31.mono BK.size)
      clear BK hb31
      obtain ⟨n2, hne2⟩ : ∃ n, Hid (us2.length = n) := ⟨_, rfl⟩
      obtain ⟨m2, hme2⟩ : ∃ m, Hid (vs2.length = m) := ⟨_, rfl⟩
      rw [hne2.out] at u31 hn2 ⊢
      rw [hme2.out] at v31 hm2 ⊢
      obtain ⟨J, hJ⟩ : ∃ J, Hid (M1.jL us2 vs2 = J) := ⟨_, rfl⟩
      obtain ⟨jk, hjk⟩ : ∃ b, Hid (M1.jOk us2 vs2 = b) := ⟨_, rfl⟩
      obtain ⟨q2, hq2⟩ : ∃ q, Hid (J.length = q) := ⟨_, rfl⟩
      go_wp2_with fail
      have c32 := joined_impl _ _ _ _ _ _ _ _ _ u31 v31
      rw [hJ.out, hjk.out] at c32
      refine c32.mono ?_
      clear c32
      rintro e w32 ⟨⟨aJ, cJ, rfl, J32⟩, hb32⟩
      rw [hq2.out] at J32 ⊢
      have u32 := u31.below hb32
      have v32 := v31.below hb32
      have B32 := B31.trans (hb32.mono B31.size)
      clear u31 v31 hb32 B31
      cases jk with
      | false =>
        clear J32
        go_wp2_with fail
        refine (taken_impl _ _ _ _ _ _ _ _ _ u32 v32).mono ?_
        rintro e w33 ⟨⟨aU, cU, rfl, U33⟩, hb33⟩
        have B33 := B32.trans (hb33.mono B32.size)
        clear U33
        go_wp2_with fail
        go_ret
        exact ⟨rfl, B33⟩
      | true =>
        have HJs : Hid (∀ i, i < q2 → (M1.up J i).s.size ≤ maxLen) := fun i hi => by
          rw [← hq2.out] at hi
          have hin := M1.up_mem hi
          have hx : M1.up J i ∈ us2 ∨ M1.up J i ∈ vs2 := by
            rw [← hJ.out] at hin ⊢
            exact (M1.jL_mem hjk.out _).1 hin
          have : (M1.up J i).s.size ≤ 1000 := hx.elim (hsh2 _) (hsv2 _)
          unfold maxLen; omega
        have htj : Hid (M1.tOk us2 vs2 = true ∧ M1.tL us2 vs2 = J) := (by
          have q := M1.t_join hjk.out
          rw [hJ.out] at q; exact q : M1.tOk us2 vs2 = true ∧ M1.tL us2 vs2 = J)
        go_wp2_with fail
        have c33 := taken_impl _ _ _ _ _ _ _ _ _ u32 v32
        rw [htj.out.1, htj.out.2] at c33
        refine c33.mono ?_
        clear c33
        rintro e w33 ⟨⟨aU, cU, rfl, U33⟩, hb33⟩
        rw [hq2.out] at U33 ⊢
        have x33 := U33.upds hq2.out HJs.out
        have j33 := (J32.upds hq2.out HJs.out).below hb33
        have B33 := B32.trans (hb33.mono B32.size)
        clear U33 J32 u32 v32 B32 hb33
        go_wp2_with fail
        refine (sameSet_self _ _ _ _ _ _ _ x33 j33).mono ?_
        rintro e w34 ⟨rfl, hb34⟩
        have B34 := B33.trans (hb34.mono B33.size)
        go_wp2_with fail
        go_ret
        exact ⟨rfl, B34⟩

theorem own : ownKnob Try.prog.godebug = none := by kernel_rfl
theorem laidOut : laidOutB Try.prog = true := by kernel_rfl
set_option maxRecDepth 100000 in
theorem lifted (os : Os) (started : os.Started) (H : Type) (enc : TypeId × Value → H) :
    ReturnsInHanded {} Try.checked os 4 .any (Rows.fnTakenSpec.pre6 enc Try.prog Try.f4 Rows.fnTakenRow.domain false) (Rows.fnTakenSpec.post enc Try.prog Try.f4 false true false false) := by
  refine returnsInHanded_of_change (C := Try.checked) own started (by kernel_rfl) Try.func4
    (ChangeSpec.witness6 (enc := enc) (C := Try.checked) false ⟨#[], #[.slice none 0 0], []⟩ 8 (by kernel_rfl) (by kernel_rfl) (by kernel_rfl) (by kernel_rfl)) ?_
  intro W base args ds gs before hval0 hW hcnd _
  have hval : ∀ (j : Nat) t v, Try.f4.params[j]? = some t → args[j]? = some v → Value.okWide Try.prog W .any base t v := hval0
  have hW' := hW
  obtain ⟨p, q, hA0, hV, rfl, hfz, hnd⟩ := hW
  have hA : DataW.TrodAll enc Try.prog W 0 (fun _ => true) true Try.f4.params.toList args.toList ds p := hA0
  rw [Try.params4] at hA hval
  obtain ⟨v0, vs0, d0, ds0, p0, q0, hargs, rfl, rfl, h0, r0⟩ := trodAll_cons hA
  obtain ⟨rfl, rfl, rfl⟩ := trodAll_nil r0
  obtain rfl : args = #[v0] := by cases args; simp_all
  obtain ⟨rfl, rfl⟩ := trodVars_none hV
  have k0 := h0
  have lt0 : ∀ x ∈ p0, x.block < W.heap.size := by obtain ⟨m, hm⟩ := k0; exact DataW.trod_lt m _ _ _ hm
  obtain ⟨a0, l0, c0, rfl⟩ := okWide_slice Try.underlying22 (hval 0 22 v0 rfl rfl)
  obtain ⟨fu0, hf0⟩ := h0
  have by0 := open_bytes hf0
  clear hA0 hval0
  refine (walk a0 l0 c0 W by0).mono fun e W' ⟨he, bel⟩ => ?_
  subst he
  exact ⟨_, rfl, _, _, _, [], _, [], hW', trodAll_mk1 (shut_bool Try.underlying4 _), (trodAll_cons_mk (Below.trod laidOut (by kernel_rfl) (of_decide_eq_true (by kernel_rfl)) k0 bel lt0) trodAll_mk0), rfl, bel.frame _, fun h => by cases h⟩

theorem over : Rows.fnTakenRow.holds Try.pinned (OpenSpec.ofChange Rows.fnTakenSpec) :=
  OpenClaim.holds_of_wide 4 Try.f4 rfl rfl rfl rfl rfl rfl rfl ⟨rfl, rfl, rfl, rfl, rfl⟩ rfl rfl rfl rfl rfl (by kernel_rfl) Try.func4 (by kernel_rfl)
    (of_decide_eq_true (by kernel_rfl)) (by unfold Func.isWrapper; first | (rw [if_pos (by decide +kernel)]; kernel_rfl) | (rw [if_neg (by decide +kernel)]; exact ⟨rfl, rfl⟩))
    (fun os started H enc _ => lifted os started H enc)

theorem proved : Rows.FnTakenSaid := over
end Go.Proofs.Ytnoinkmpkklikaa.fnTaken
namespace Go.Proofs.Ytnoinkmpkklikaa
theorem fnTaken_holds : Rows.FnTakenSaid := fnTaken.proved
end Go.Proofs.Ytnoinkmpkklikaa
