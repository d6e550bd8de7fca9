/-
  For every slice of bytes the law FnReceived answers true: what a drawn region receives it has as far as it came next, nothing is lost, what is refused leaves the region as it was, and the new region is right. The variables that the card lists are as the program's text lays them (the card's tie). (tools/mkfnrec.py)
-/
import Derived.Test.YtccendmoeelniaaGreatDoorZReceived47
import Derived.Test.YtccendmoeelniaaGreatDoorZReceived48
import Derived.Test.YtccendmoeelniaaGreatDoorZReceived49
import Derived.Test.YtccendmoeelniaaGreatDoorZReceived50
import Derived.Test.YtccendmoeelniaaGreatDoorZReceived27
import Derived.Test.YtccendmoeelniaaGreatDoorCards
import Derived.Test.YtccendmoeelniaaGreatDoorTie
import Derived.SevenTiedAt
import Derived.Stop.LaidErr
import Derived.LaidMore
import Derived.LaidHandle
import Derived.OpenVars
import Derived.ChangeSame
import Derived.ChangeVars
import Derived.JoinedOf
import Derived.Stop.Joined
import Derived.OpenShut
import Derived.ShutString
import Derived.ChangeOld
import Derived.Lib.SmallJoins
namespace Go.Proofs.YtccendmoeelniaaGreatDoor.fnReceived
open Go.ChangeShapes Go.WideShapes Go.ChangeAt Go.RowKit
set_option linter.unusedVariables false
set_option linter.unusedSimpArgs false
set_option maxHeartbeats 40000000 in
set_option maxRecDepth 100000 in
theorem walk (av : Option Addr) (len cap : Nat) (w : World) (h : IsBytes w av len cap) (hS : ∃ s0 s1 s2 s3 s4, Sens w s0 s1 s2 s3 s4) :
    Calls Tryz.prog 4 #[.slice av len cap] w fun e w' => e = .returned (.bool true) ∧ Below w.heap.size w w' := by
  obtain ⟨s0, s1, s2, s3, s4, S⟩ := hS
  by_cases hl : (1048576 : Int) < (len : Int)
  · go_enter Tryz.func4, Tryz.ntmps4
    go_wp2_with fail
    refine (big_any _ _ _ _ h.hc h.hm).mono ?_
    rw [decide_eq_true hl]
    rintro e w0 ⟨rfl, rfl⟩
    go_wp2_with fail
    go_ret
    exact ⟨rfl, Below.refl _ _⟩
  · go_enter Tryz.func4, Tryz.ntmps4
    go_wp2_with fail
    refine (big_any _ _ _ _ h.hc h.hm).mono ?_
    rw [decide_eq_false (by omega : ¬ (1048576 : Int) < (len : Int))]
    rintro e w0 ⟨rfl, hw0⟩
    obtain rfl := hw0.symm
    go_wp2_with fail
    refine (drawReceived_any _ _ _ _ h).mono ?_
    rintro e w1 ⟨r, v, c, ns, sv, sc, now, rfl, mr, hset, mn, hsh, hnl, B1⟩
    obtain ⟨n, hne⟩ : ∃ n, Hid (r.us.length = n) := ⟨_, rfl⟩
    obtain ⟨m, hme⟩ : ∃ m, Hid (ns.length = m) := ⟨_, rfl⟩
    have HRs : Hid (∀ i, i < n → (M1.up r.us i).s.size ≤ maxLen) := (by rw [← hne.out]; exact set_short2 hset : ∀ i, i < n → (M1.up r.us i).s.size ≤ maxLen)
    have HNs : Hid (∀ i, i < m → (M1.up ns i).s.size ≤ maxLen) := (by rw [← hme.out]; exact hsh.max : ∀ i, i < m → (M1.up ns i).s.size ≤ maxLen)
    rw [hne.out] at mr ⊢
    rw [hme.out] at mn ⊢
    have u1 : IsUpds w1 v n c r.us := mr.upds hne.out HRs.out
    have s1' : IsUpds w1 sv m sc ns := mn.upds hme.out HNs.out
    clear mr mn
    obtain ⟨T, HX⟩ : ∃ x, Hid (M1.rcR r ns now = x) := ⟨_, rfl⟩
    obtain ⟨kc, HK⟩ : ∃ k, Hid (M1.rcC r ns now = k) := ⟨_, rfl⟩
    have hxs : M1.setOk T.us = true := by rw [← HX.out]; exact M1.rc_set _ _ _
    obtain ⟨q, HQ⟩ : ∃ q, Hid (T.us.length = q) := ⟨_, rfl⟩
    have HTX : Hid (∀ i, i < q → (M1.up T.us i).s.size ≤ maxLen) := (by rw [← HQ.out]; exact set_short2 hxs : ∀ i, i < q → (M1.up T.us i).s.size ≤ maxLen)
    have hkk : (kc != kc) = false := by simp
    have hkk2 : (kc == kc) = true := by simp
    have n1 := s1'
    clear s1'
    have hb2 : Below w1.heap.size w1 (w1.alloc (.cells #[.int .i64 r.id, .int .i64 r.a, .int .i64 r.b, .int .i64 r.c, .slice v n c] 28)) := (Below.refl _ _).alloc (Nat.le_refl _) _
    have A2 : RgAt (w1.alloc (.cells #[.int .i64 r.id, .int .i64 r.a, .int .i64 r.b, .int .i64 r.c, .slice v n c] 28)) w1.heap.size r.id r.a r.b r.c v n c := rg_new w1 r.id r.a r.b r.c v n c 28
    go_upto_region 4 with fail
    obtain ⟨w2, hw2⟩ : ∃ W, (w1.alloc (.cells #[.int .i64 r.id, .int .i64 r.a, .int .i64 r.b, .int .i64 r.c, .slice v n c] 28)) = W := ⟨_, rfl⟩
    rw [hw2] at hb2 A2 ⊢
    clear hw2
    have B2 := B1.trans (hb2.mono B1.size)
    have hs2 := hb2.size
    obtain ⟨gA, hgA⟩ : ∃ g, Hid (w1.heap.size = g) := ⟨_, rfl⟩
    rw [hgA.out] at A2 ⊢
    have u2 : IsUpds w2 v n c r.us := u1.below hb2
    have n2 : IsUpds w2 sv m sc ns := n1.below hb2
    clear u1 n1
    obtain ⟨d0, d1, d2, d3, d4⟩ := A2.cells
    have dl := A2.lt
    go_wp2_with fail
    have js := received_impl s0 s1 s2 s3 s4 r _ _ _ _ _ _ ns now _ (S.below B2) u2 n2
    unfold RgD at js
    rw [HX.out, HK.out, HQ.out] at js
    refine js.mono ?_
    clear js
    rintro e w3 ⟨⟨_, rfl, aN, cN, rfl, mN⟩, hb3⟩
    have B3 := B2.trans (hb3.mono B2.size)
    have hs3 := hb3.size
    have xN3 := mN.upds HQ.out HTX.out
    have u3 : IsUpds w3 v n c r.us := u2.below hb3
    have n3 : IsUpds w3 sv m sc ns := n2.below hb3
    have A3 : RgAt w3 gA r.id r.a r.b r.c v n c := RowAt.below A2 hb3
    clear u2 n2 A2
    clear d0 d1 d2 d3 d4 dl
    have hb4 : Below w3.heap.size w3 (w3.alloc (.cells #[.int .i64 T.id, .int .i64 T.a, .int .i64 T.b, .int .i64 T.c, .slice aN q cN] 28)) := (Below.refl _ _).alloc (Nat.le_refl _) _
    have N4 : RgAt (w3.alloc (.cells #[.int .i64 T.id, .int .i64 T.a, .int .i64 T.b, .int .i64 T.c, .slice aN q cN] 28)) w3.heap.size T.id T.a T.b T.c aN q cN := rg_new w3 T.id T.a T.b T.c aN q cN 28
    go_upto_region 5 with fail
    obtain ⟨w4, hw4⟩ : ∃ W, (w3.alloc (.cells #[.int .i64 T.id, .int .i64 T.a, .int .i64 T.b, .int .i64 T.c, .slice aN q cN] 28)) = W := ⟨_, rfl⟩
    rw [hw4] at hb4 N4 ⊢
    clear hw4
    have B4 := B3.trans (hb4.mono B3.size)
    have hs4 := hb4.size
    obtain ⟨gN, hgN⟩ : ∃ g, Hid (w3.heap.size = g) := ⟨_, rfl⟩
    rw [hgN.out] at N4 ⊢
    have u4 : IsUpds w4 v n c r.us := u3.below hb4
    have n4 : IsUpds w4 sv m sc ns := n3.below hb4
    have A4 : RgAt w4 gA r.id r.a r.b r.c v n c := RowAt.below A3 hb4
    have xN4 : IsUpds w4 aN q cN T.us := xN3.below hb4
    clear u3 n3 A3 xN3
    obtain ⟨d0, d1, d2, d3, d4⟩ := A4.cells
    have dl := A4.lt
    go_wp2_with fail
    have js := received_spec r _ _ _ _ _ _ ns now _ u4 n4
    unfold RcS RgD at js
    rw [HX.out, HK.out, HQ.out] at js
    refine js.mono ?_
    clear js
    rintro e w5 ⟨⟨_, rfl, aW, cW, rfl, mW⟩, hb5⟩
    have B5 := B4.trans (hb5.mono B4.size)
    have hs5 := hb5.size
    have xW5 := mW.upds HQ.out HTX.out
    have u5 : IsUpds w5 v n c r.us := u4.below hb5
    have n5 : IsUpds w5 sv m sc ns := n4.below hb5
    have A5 : RgAt w5 gA r.id r.a r.b r.c v n c := RowAt.below A4 hb5
    have xN5 : IsUpds w5 aN q cN T.us := xN4.below hb5
    have N5 : RgAt w5 gN T.id T.a T.b T.c aN q cN := RowAt.below N4 hb5
    clear u4 n4 A4 xN4 N4
    clear d0 d1 d2 d3 d4 dl
    have hb6 : Below w5.heap.size w5 (w5.alloc (.cells #[.int .i64 T.id, .int .i64 T.a, .int .i64 T.b, .int .i64 T.c, .slice aW q cW] 28)) := (Below.refl _ _).alloc (Nat.le_refl _) _
    have W6 : RgAt (w5.alloc (.cells #[.int .i64 T.id, .int .i64 T.a, .int .i64 T.b, .int .i64 T.c, .slice aW q cW] 28)) w5.heap.size T.id T.a T.b T.c aW q cW := rg_new w5 T.id T.a T.b T.c aW q cW 28
    go_upto_region 6 with fail
    obtain ⟨w6, hw6⟩ : ∃ W, (w5.alloc (.cells #[.int .i64 T.id, .int .i64 T.a, .int .i64 T.b, .int .i64 T.c, .slice aW q cW] 28)) = W := ⟨_, rfl⟩
    rw [hw6] at hb6 W6 ⊢
    clear hw6
    have B6 := B5.trans (hb6.mono B5.size)
    have hs6 := hb6.size
    obtain ⟨gW, hgW⟩ : ∃ g, Hid (w5.heap.size = g) := ⟨_, rfl⟩
    rw [hgW.out] at W6 ⊢
    have u6 : IsUpds w6 v n c r.us := u5.below hb6
    have n6 : IsUpds w6 sv m sc ns := n5.below hb6
    have A6 : RgAt w6 gA r.id r.a r.b r.c v n c := RowAt.below A5 hb6
    have xN6 : IsUpds w6 aN q cN T.us := xN5.below hb6
    have N6 : RgAt w6 gN T.id T.a T.b T.c aN q cN := RowAt.below N5 hb6
    have xW6 : IsUpds w6 aW q cW T.us := xW5.below hb6
    clear u5 n5 A5 xN5 N5 xW5
    by_cases hk1 : kc = 1
    · have q1 : (kc == 1) = true := by simp [hk1]
      obtain ⟨d0, d1, d2, d3, d4⟩ := N6.cells
      have dl := N6.lt
      obtain ⟨e0, e1, e2, e3, e4⟩ := W6.cells
      have el := W6.lt
      go_wp2_with fail
      have js := sameRegion_self T.id T.a T.b T.c _ _ _ _ _ _ _ xN6 xW6
      refine js.mono ?_
      clear js
      rintro e w7 ⟨rfl, hb7⟩
      have B7 := B6.trans (hb7.mono B6.size)
      have hs7 := hb7.size
      have u7 : IsUpds w7 v n c r.us := u6.below hb7
      have n7 : IsUpds w7 sv m sc ns := n6.below hb7
      have A7 : RgAt w7 gA r.id r.a r.b r.c v n c := RowAt.below A6 hb7
      have xN7 : IsUpds w7 aN q cN T.us := xN6.below hb7
      have N7 : RgAt w7 gN T.id T.a T.b T.c aN q cN := RowAt.below N6 hb7
      have xW7 : IsUpds w7 aW q cW T.us := xW6.below hb7
      have W7 : RgAt w7 gW T.id T.a T.b T.c aW q cW := RowAt.below W6 hb7
      clear u6 n6 A6 xN6 N6 xW6 W6
      clear d0 d1 d2 d3 d4 dl
      clear e0 e1 e2 e3 e4 el
      obtain ⟨d0, d1, d2, d3, d4⟩ := N7.cells
      have dl := N7.lt
      obtain ⟨e0, e1, e2, e3, e4⟩ := W7.cells
      have el := W7.lt
      go_wp2_with fail
      have js := sameRegion_self T.id T.a T.b T.c _ _ _ _ _ _ _ xN7 xW7
      refine js.mono ?_
      clear js
      rintro e w8 ⟨rfl, hb8⟩
      have B8 := B7.trans (hb8.mono B7.size)
      have hs8 := hb8.size
      have u8 : IsUpds w8 v n c r.us := u7.below hb8
      have n8 : IsUpds w8 sv m sc ns := n7.below hb8
      have A8 : RgAt w8 gA r.id r.a r.b r.c v n c := RowAt.below A7 hb8
      have xN8 : IsUpds w8 aN q cN T.us := xN7.below hb8
      have N8 : RgAt w8 gN T.id T.a T.b T.c aN q cN := RowAt.below N7 hb8
      have xW8 : IsUpds w8 aW q cW T.us := xW7.below hb8
      have W8 : RgAt w8 gW T.id T.a T.b T.c aW q cW := RowAt.below W7 hb8
      clear u7 n7 A7 xN7 N7 xW7 W7
      clear d0 d1 d2 d3 d4 dl
      clear e0 e1 e2 e3 e4 el
      go_wp2_with fail
      go_ret
      exact ⟨rfl, B8⟩
    · have q1 : (kc == 1) = false := by simp [hk1]
      by_cases hk0 : kc = 0
      · have q0 : (kc != 0) = false := by simp [hk0]
        have HQ9 : Hid (M1.rOk r = true ∧ T = M1.rcN r ns now ∧ M1.tOk r.us ns = true ∧ M1.rOk T = true) := (by
          have h9 := HK.out
          rw [hk0] at h9
          rcases M1.rc_cases r ns now with q | q | q
          · rw [q.2.1] at h9; cases h9
          · rcases q.2.1 with q | q | q <;> rw [q] at h9 <;> cases h9
          · refine ⟨q.1, HX.out.symm.trans q.2.2.1, q.2.2.2, ?_⟩
            rw [← HX.out, q.2.2.1]
            refine M1.rc_ok q.1 q.2.2.2 ?_
            unfold M1.rcC at h9
            rw [q.1, q.2.2.2] at h9
            cases hm : (M1.mt r ns now).ok with
            | true => rfl
            | false =>
              rw [hm] at h9
              cases hf : M1.rcF ns now <;> rw [hf] at h9 <;> simp at h9 : _ ∧ _ ∧ _ ∧ _)
        have HTU : Hid (M1.tL r.us ns = T.us) := (by rw [HQ9.out.2.1]; rfl : _ = _)
        have HTI : Hid (T.id = r.id) := (by rw [HQ9.out.2.1]; rfl : _ = _)
        obtain ⟨d0, d1, d2, d3, d4⟩ := N6.cells
        have dl := N6.lt
        obtain ⟨e0, e1, e2, e3, e4⟩ := W6.cells
        have el := W6.lt
        go_wp2_with fail
        have js := sameRegion_self T.id T.a T.b T.c _ _ _ _ _ _ _ xN6 xW6
        refine js.mono ?_
        clear js
        rintro e w7 ⟨rfl, hb7⟩
        have B7 := B6.trans (hb7.mono B6.size)
        have hs7 := hb7.size
        have u7 : IsUpds w7 v n c r.us := u6.below hb7
        have n7 : IsUpds w7 sv m sc ns := n6.below hb7
        have A7 : RgAt w7 gA r.id r.a r.b r.c v n c := RowAt.below A6 hb7
        have xN7 : IsUpds w7 aN q cN T.us := xN6.below hb7
        have N7 : RgAt w7 gN T.id T.a T.b T.c aN q cN := RowAt.below N6 hb7
        have xW7 : IsUpds w7 aW q cW T.us := xW6.below hb7
        have W7 : RgAt w7 gW T.id T.a T.b T.c aW q cW := RowAt.below W6 hb7
        clear u6 n6 A6 xN6 N6 xW6 W6
        clear d0 d1 d2 d3 d4 dl
        clear e0 e1 e2 e3 e4 el
        obtain ⟨d0, d1, d2, d3, d4⟩ := A7.cells
        have dl := A7.lt
        go_wp2_with fail
        have js := taken_impl _ _ _ _ _ _ r.us ns _ u7 n7
        unfold Jd at js
        rw [HTU.out, HQ9.out.2.2.1, HQ.out] at js
        refine js.mono ?_
        clear js
        rintro e w8 ⟨⟨aT, cT, rfl, mT⟩, hb8⟩
        have B8 := B7.trans (hb8.mono B7.size)
        have hs8 := hb8.size
        have xT8 := mT.upds HQ.out HTX.out
        have u8 : IsUpds w8 v n c r.us := u7.below hb8
        have n8 : IsUpds w8 sv m sc ns := n7.below hb8
        have A8 : RgAt w8 gA r.id r.a r.b r.c v n c := RowAt.below A7 hb8
        have xN8 : IsUpds w8 aN q cN T.us := xN7.below hb8
        have N8 : RgAt w8 gN T.id T.a T.b T.c aN q cN := RowAt.below N7 hb8
        have xW8 : IsUpds w8 aW q cW T.us := xW7.below hb8
        have W8 : RgAt w8 gW T.id T.a T.b T.c aW q cW := RowAt.below W7 hb8
        clear u7 n7 A7 xN7 N7 xW7 W7
        clear d0 d1 d2 d3 d4 dl
        obtain ⟨d0, d1, d2, d3, d4⟩ := N8.cells
        have dl := N8.lt
        go_wp2_with fail
        have js := regionOk_impl T.id T.a T.b T.c _ _ _ T.us _ xN8
        rw [show M1.regOk T.id T.a T.b T.c T.us = true from HQ9.out.2.2.2] at js
        refine js.mono ?_
        clear js
        rintro e w9 ⟨rfl, hb9⟩
        have B9 := B8.trans (hb9.mono B8.size)
        have hs9 := hb9.size
        have u9 : IsUpds w9 v n c r.us := u8.below hb9
        have n9 : IsUpds w9 sv m sc ns := n8.below hb9
        have A9 : RgAt w9 gA r.id r.a r.b r.c v n c := RowAt.below A8 hb9
        have xN9 : IsUpds w9 aN q cN T.us := xN8.below hb9
        have N9 : RgAt w9 gN T.id T.a T.b T.c aN q cN := RowAt.below N8 hb9
        have xW9 : IsUpds w9 aW q cW T.us := xW8.below hb9
        have W9 : RgAt w9 gW T.id T.a T.b T.c aW q cW := RowAt.below W8 hb9
        have xT9 : IsUpds w9 aT q cT T.us := xT8.below hb9
        clear u8 n8 A8 xN8 N8 xW8 W8 xT8
        clear d0 d1 d2 d3 d4 dl
        obtain ⟨d0, d1, d2, d3, d4⟩ := N9.cells
        have dl := N9.lt
        go_wp2_with fail
        have js := sameSet_self _ _ _ _ _ T.us _ xN9 xT9
        refine js.mono ?_
        clear js
        rintro e w10 ⟨rfl, hb10⟩
        have B10 := B9.trans (hb10.mono B9.size)
        have hs10 := hb10.size
        have u10 : IsUpds w10 v n c r.us := u9.below hb10
        have n10 : IsUpds w10 sv m sc ns := n9.below hb10
        have A10 : RgAt w10 gA r.id r.a r.b r.c v n c := RowAt.below A9 hb10
        have xN10 : IsUpds w10 aN q cN T.us := xN9.below hb10
        have N10 : RgAt w10 gN T.id T.a T.b T.c aN q cN := RowAt.below N9 hb10
        have xW10 : IsUpds w10 aW q cW T.us := xW9.below hb10
        have W10 : RgAt w10 gW T.id T.a T.b T.c aW q cW := RowAt.below W9 hb10
        have xT10 : IsUpds w10 aT q cT T.us := xT9.below hb10
        clear u9 n9 A9 xN9 N9 xW9 W9 xT9
        clear d0 d1 d2 d3 d4 dl
        have hin : Hid (∀ i, i < n → ∃ j, j < q ∧ M1.up T.us j = M1.up r.us i) := fun i hi => by
          rw [← hne.out] at hi
          have := (M1.tOk_true HQ9.out.2.2.1).2.2.2.1 _ (M1.up_mem hi)
          rw [HTU.out] at this
          obtain ⟨j, hj, e⟩ := M1.mem_up this
          exact ⟨j, by rw [← HQ.out]; exact hj, e⟩
        obtain ⟨d0, d1, d2, d3, d4⟩ := A10.cells
        have dl := A10.lt
        obtain ⟨e0, e1, e2, e3, e4⟩ := N10.cells
        have el := N10.lt
        go_wp2_with fail
        have js := within_yes _ _ _ _ _ _ r.us T.us _ u10 xN10 hin
        refine js.mono ?_
        clear js
        rintro e w11 ⟨rfl, hb11⟩
        have B11 := B10.trans (hb11.mono B10.size)
        have hs11 := hb11.size
        have u11 : IsUpds w11 v n c r.us := u10.below hb11
        have n11 : IsUpds w11 sv m sc ns := n10.below hb11
        have A11 : RgAt w11 gA r.id r.a r.b r.c v n c := RowAt.below A10 hb11
        have xN11 : IsUpds w11 aN q cN T.us := xN10.below hb11
        have N11 : RgAt w11 gN T.id T.a T.b T.c aN q cN := RowAt.below N10 hb11
        have xW11 : IsUpds w11 aW q cW T.us := xW10.below hb11
        have W11 : RgAt w11 gW T.id T.a T.b T.c aW q cW := RowAt.below W10 hb11
        have xT11 : IsUpds w11 aT q cT T.us := xT10.below hb11
        clear u10 n10 A10 xN10 N10 xW10 W10 xT10
        clear d0 d1 d2 d3 d4 dl
        clear e0 e1 e2 e3 e4 el
        obtain ⟨d0, d1, d2, d3, d4⟩ := A11.cells
        have dl := A11.lt
        obtain ⟨e0, e1, e2, e3, e4⟩ := N11.cells
        have el := N11.lt
        have qi : (T.id == r.id) = true := by simp [HTI.out]
        go_wp2_with fail
        go_ret
        exact ⟨rfl, B11⟩
      · have q0 : (kc != 0) = true := by simp [hk0]
        obtain rfl : r = T := (by
          symm
          have h9 := HK.out
          rcases M1.rc_cases r ns now with q | q | q
          · rw [q.2.1] at h9; exact absurd h9.symm hk1
          · exact HX.out.symm.trans q.2.2
          · rw [q.2.1] at h9; exact absurd h9.symm hk0)
        have hnq : n = q := hne.out.symm.trans HQ.out
        subst hnq
        obtain ⟨d0, d1, d2, d3, d4⟩ := N6.cells
        have dl := N6.lt
        obtain ⟨e0, e1, e2, e3, e4⟩ := W6.cells
        have el := W6.lt
        go_wp2_with fail
        have js := sameRegion_self r.id r.a r.b r.c _ _ _ _ _ _ _ xN6 xW6
        refine js.mono ?_
        clear js
        rintro e w7 ⟨rfl, hb7⟩
        have B7 := B6.trans (hb7.mono B6.size)
        have hs7 := hb7.size
        have u7 : IsUpds w7 v n c r.us := u6.below hb7
        have n7 : IsUpds w7 sv m sc ns := n6.below hb7
        have A7 : RgAt w7 gA r.id r.a r.b r.c v n c := RowAt.below A6 hb7
        have xN7 : IsUpds w7 aN n cN r.us := xN6.below hb7
        have N7 : RgAt w7 gN r.id r.a r.b r.c aN n cN := RowAt.below N6 hb7
        have xW7 : IsUpds w7 aW n cW r.us := xW6.below hb7
        have W7 : RgAt w7 gW r.id r.a r.b r.c aW n cW := RowAt.below W6 hb7
        clear u6 n6 A6 xN6 N6 xW6 W6
        clear d0 d1 d2 d3 d4 dl
        clear e0 e1 e2 e3 e4 el
        obtain ⟨d0, d1, d2, d3, d4⟩ := N7.cells
        have dl := N7.lt
        obtain ⟨e0, e1, e2, e3, e4⟩ := A7.cells
        have el := A7.lt
        go_wp2_with fail
        have js := sameRegion_self r.id r.a r.b r.c _ _ _ _ _ _ _ xN7 u7
        refine js.mono ?_
        clear js
        rintro e w8 ⟨rfl, hb8⟩
        have B8 := B7.trans (hb8.mono B7.size)
        have hs8 := hb8.size
        have u8 : IsUpds w8 v n c r.us := u7.below hb8
        have n8 : IsUpds w8 sv m sc ns := n7.below hb8
        have A8 : RgAt w8 gA r.id r.a r.b r.c v n c := RowAt.below A7 hb8
        have xN8 : IsUpds w8 aN n cN r.us := xN7.below hb8
        have N8 : RgAt w8 gN r.id r.a r.b r.c aN n cN := RowAt.below N7 hb8
        have xW8 : IsUpds w8 aW n cW r.us := xW7.below hb8
        have W8 : RgAt w8 gW r.id r.a r.b r.c aW n cW := RowAt.below W7 hb8
        clear u7 n7 A7 xN7 N7 xW7 W7
        clear d0 d1 d2 d3 d4 dl
        clear e0 e1 e2 e3 e4 el
        go_wp2_with fail
        go_ret
        exact ⟨rfl, B8⟩

theorem own : ownKnob Tryz.prog.godebug = none := by kernel_rfl

theorem laidOut : laidOutB Tryz.prog = true := by kernel_rfl

set_option maxRecDepth 100000 in
theorem door_met (os : Os) (args : Array Value) : laidMetH Tryz.prog Rows.fnReceivedRow.laid ((World.doorLaid Tryz.prog 111 os).forCall (fun _ _ => 0) ⟨#[], args, []⟩).memory :=
  laidMetH_of_parts3 (fuel := 8) (laidMet_of_run' 8 (by kernel_rfl) (by kernel_rfl)) (by kernel_rfl) (by kernel_rfl)

set_option maxRecDepth 100000 in
theorem lifted (os : Os) (started : os.Started) (H : Type) (enc : TypeId × Value → H) :
    ReturnsInHanded {} Tryz.checked os 4 .any (fun w args => (Rows.fnReceivedSpec.pre enc Tryz.prog Tryz.f4 Rows.fnReceivedRow.domain false w args ∧ laidMetH Tryz.prog Rows.fnReceivedRow.laid w) ∧ sizedMet enc Tryz.prog Tryz.f4 (OpenSpec.ofChange Rows.fnReceivedSpec) false w args) (Rows.fnReceivedSpec.post enc Tryz.prog Tryz.f4 false true false false) := by
  refine returnsInHanded_of_change_and (C := Tryz.checked) (X := fun w _ => laidMetH Tryz.prog Rows.fnReceivedRow.laid w) (fun _ _ _ hh h => h.of_heap hh) own started (by kernel_rfl) Tryz.func4
    (ChangeSpec.witness_shaped (enc := enc) (C := Tryz.checked) (os := os) (X := fun w _ => laidMetH Tryz.prog Rows.fnReceivedRow.laid w) false (World.doorLaid Tryz.prog 111 os) #[.slice none 0 0] 8 rfl (World.shaped_of_RefB (by kernel_rfl) (by kernel_rfl)) (by kernel_rfl) (by kernel_rfl) (by kernel_rfl) (door_met os _)) ?_
  intro W base args ds gs before hval0 hW hcnd _ hL _
  have hval : ∀ (j : Nat) t v, Tryz.f4.params[j]? = some t → args[j]? = some v → Value.okWide Tryz.prog W .any base t v := hval0
  have hW' := hW
  obtain ⟨p, q, hA0, hV, rfl, hfz, hnd⟩ := hW
  have hA : DataW.TrodAll enc Tryz.prog W 0 (fun _ => true) true Tryz.f4.params.toList args.toList ds p := hA0
  rw [Tryz.params4] at hA hval
  obtain ⟨v0, vs0, d0, ds0, p0, q0, hargs, rfl, rfl, h0, r0⟩ := trodAll_cons hA
  obtain ⟨rfl, rfl, rfl⟩ := trodAll_nil r0
  obtain rfl : args = #[v0] := by cases args; simp_all
  obtain ⟨gg0, gg1, gg2, gg3, gg4, rfl⟩ := list5 (trodVars_len hV)
  have k0 := h0
  have lt0 : ∀ x ∈ p0, x.block < W.heap.size := by obtain ⟨m, hm⟩ := k0; exact DataW.trod_lt m _ _ _ hm
  obtain ⟨a0, l0, c0, rfl⟩ := okWide_slice Tryz.underlying22 (hval 0 22 v0 rfl rfl)
  obtain ⟨fu0, hf0⟩ := h0
  have by0 := open_bytes hf0
  clear hA0 hval0
  refine (walk a0 l0 c0 W by0 (sens_of hL)).mono fun e W' ⟨he, bel⟩ => ?_
  subst he
  exact ⟨_, rfl, _, _, _, [], _, _, hW', trodAll_mk1 (shut_bool Tryz.underlying4 _), (trodAll_cons_mk (Below.trod laidOut (by kernel_rfl) (of_decide_eq_true (by kernel_rfl)) k0 bel lt0) trodAll_mk0), Below.trodVars laidOut bel (by kernel_rfl) hV, bel.frame _, fun h => by cases h⟩

theorem over : Rows.fnReceivedRow.holds Tryz.pinned (OpenSpec.ofChange Rows.fnReceivedSpec) :=
  OpenClaim.holds_of_wide 4 Tryz.f4 rfl rfl rfl rfl rfl rfl rfl ⟨rfl, rfl, rfl, rfl, rfl⟩ rfl rfl rfl rfl rfl (by kernel_rfl) Tryz.func4 (by kernel_rfl)
    (of_decide_eq_true (by kernel_rfl)) (by unfold Func.isWrapper; first | (rw [if_pos (by decide +kernel)]; kernel_rfl) | (rw [if_neg (by decide +kernel)]; exact ⟨rfl, rfl⟩))
    (fun os started H enc _ => lifted os started H enc)

theorem proved : Rows.FnReceivedCardSaid :=
  Claim7.holds_tied_plain_at .later [] [.handle, .sentinel, .sentinel, .sentinel, .sentinel, .sentinel] true (true, "d847580c0baf8cb44f53c281aef2f508ffd1520f54dc402e0f6ffdcf892a1bba") true
    over (fun _ h => by cases h) (by kernel_rfl) (fun _ h => by cases h) fnReceived_row_tie rfl ⟨rfl, rfl⟩ (by kernel_rfl) rfl
    (fun f fn hf hfn => by
      obtain rfl : f = 4 := Option.some.inj ((show Tryz.prog.funcNamed "loop.example/g00368/laws.FnReceived" = some 4 by kernel_rfl).symm.trans hf) |>.symm
      obtain rfl : fn = Tryz.f4 := (Option.some.inj (Tryz.func4.symm.trans hfn)).symm
      exact ⟨by kernel_rfl, fun j t ht => by
        rw [Tryz.params4] at ht
        have hm : t ∈ [22] := by simpa using Array.mem_of_getElem? ht
        have hall : ([22].all fun u => !Tryz.prog.wantsStandIn u) = true := by kernel_rfl
        exact (show Tryz.prog.wantsStandIn t = false by simpa using List.all_eq_true.1 hall t hm)⟩)
    (by kernel_rfl)

end Go.Proofs.YtccendmoeelniaaGreatDoor.fnReceived
namespace Go.Proofs.YtccendmoeelniaaGreatDoor
theorem fnReceived_holds : Rows.FnReceivedCardSaid := fnReceived.proved

end Go.Proofs.YtccendmoeelniaaGreatDoor
