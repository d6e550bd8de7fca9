/-
  For every slice of bytes the law FnIssued answers true: what a drawn region issues is its next update, behind all that it has seen; what is refused leaves it as it was; retiring hides, reviving shows, keeping keeps. The variables that the card lists are as the program's text lays them (the card's tie). (tools/mkfniss.py)
-/
import Derived.Test.YtccendmoeelniaaGreatDoorZFIssued48
import Derived.Test.YtccendmoeelniaaGreatDoorZFIssued49
import Derived.Test.YtccendmoeelniaaGreatDoorZFIssued11
import Derived.Test.YtccendmoeelniaaGreatDoorZFIssued50
import Derived.Test.YtccendmoeelniaaGreatDoorZFIssued16
import Derived.Test.YtccendmoeelniaaGreatDoorZFIssued21
import Derived.Test.YtccendmoeelniaaGreatDoorZFIssued22
import Derived.Test.YtccendmoeelniaaGreatDoorZFIssued04
import Derived.Test.YtccendmoeelniaaGreatDoorZFIssued30
import Derived.Test.YtccendmoeelniaaGreatDoorCards
import Derived.Test.YtccendmoeelniaaGreatDoorTie
import Derived.Deep.CutBlock
import Derived.SevenTiedAt
import Derived.Stop.LaidErr
import Derived.LaidMore
import Derived.LaidHandle
import Derived.OpenVars
import Derived.ChangeSame
import Derived.ChangeVars
import Derived.JoinedOf
import Derived.Stop.Joined
import Derived.OpenShut
import Derived.ShutString
import Derived.ChangeOld
import Derived.Lib.SmallJoins
namespace Go.Proofs.YtccendmoeelniaaGreatDoor.fnIssued
open Go.ChangeShapes Go.WideShapes Go.ChangeAt Go.RowKit
set_option linter.unusedVariables false
set_option linter.unusedSimpArgs false
attribute [local go_sem high] eqU
set_option maxHeartbeats 40000000 in
set_option maxRecDepth 100000 in
theorem walk (av : Option Addr) (len cap : Nat) (w : World) (h : IsBytes w av len cap) (hS : ∃ s0 s1 s2 s3 s4, Sens w s0 s1 s2 s3 s4) :
  Calls Tryz.prog 3 #[.slice av len cap] w fun e w' => e = .returned (.bool true) ∧ Below w.heap.size w w' := by
 obtain ⟨s0, s1, s2, s3, s4, S⟩ := hS
 by_cases hl : (1048576 : Int) < (len : Int)
 ·go_enter Tryz.func3, Tryz.ntmps3
  go_wp2_with fail
  refine (big_any _ _ _ _ h.hc h.hm).mono ?_
  rw [decide_eq_true hl]
  rintro e w0 ⟨rfl, rfl⟩
  go_wp2_with fail
  go_ret
  exact ⟨rfl, Below.refl _ _⟩
 ·go_enter Tryz.func3, Tryz.ntmps3
  go_wp2_with fail
  refine (big_any _ _ _ _ h.hc h.hm).mono ?_
  rw [decide_eq_false (by omega : ¬ (1048576 : Int) < (len : Int))]
  rintro e w0 ⟨rfl, hw0⟩
  obtain rfl := hw0.symm
  go_wp2_with fail
  refine (drawIssued_any _ _ _ _ h).mono ?_
  rintro e w1 ⟨r, v, c, x, now, rfl, mr, hset, hx, B1⟩
  obtain ⟨n, hne⟩ : ∃ n, Hid (r.us.length = n) := ⟨_, rfl⟩
  have hn60 : n ≤ 60 := by rw [← hne.out]; exact M1.setOk_len hset
  have HRs : Hid (∀ i, i < n → (M1.up r.us i).s.size ≤ maxLen) := (by rw [← hne.out]; exact set_short2 hset : ∀ i, i < n → (M1.up r.us i).s.size ≤ maxLen)
  rw [hne.out] at mr ⊢
  have u1 : IsUpds w1 v n c r.us := mr.upds hne.out HRs.out
  have hxm : x.s.size ≤ maxLen := by unfold maxLen; omega
  clear mr
  obtain ⟨T, HX⟩ : ∃ t, Hid (M1.isR r x now = t) := ⟨_, rfl⟩
  obtain ⟨U, HU⟩ : ∃ t, Hid (M1.isU r x now = t) := ⟨_, rfl⟩
  obtain ⟨kc, HK⟩ : ∃ k, Hid (M1.isC r x now = k) := ⟨_, rfl⟩
  have hxs : M1.setOk T.us = true := by rw [← HX.out]; exact M1.is_set _ _ _
  obtain ⟨q, HQ⟩ : ∃ q, Hid (T.us.length = q) := ⟨_, rfl⟩
  have HTX : Hid (∀ i, i < q → (M1.up T.us i).s.size ≤ maxLen) := (by rw [← HQ.out]; exact set_short2 hxs : ∀ i, i < q → (M1.up T.us i).s.size ≤ maxLen)
  have hkk : (kc != kc) = false := by simp
  have hkk2 : (kc == kc) = true := by simp
  have huu : M1.ueq U U = true := M1.ueq_self U
  have hb2 : Below w1.heap.size w1 ((w1.alloc (.cells #[.int .i64 r.id, .int .i64 r.a, .int .i64 r.b, .int .i64 r.c, .slice v n c] 28)).alloc (.cells #[.int .i64 x.k, .int .i64 x.t, .int .i64 x.id, .int .i64 x.pa, .string x.s, .int .i64 x.st, .int .i64 x.en] 32)) := ((Below.refl _ _).alloc (Nat.le_refl _) _).alloc (by simp <;> omega) _
  have A2 : RgAt ((w1.alloc (.cells #[.int .i64 r.id, .int .i64 r.a, .int .i64 r.b, .int .i64 r.c, .slice v n c] 28)).alloc (.cells #[.int .i64 x.k, .int .i64 x.t, .int .i64 x.id, .int .i64 x.pa, .string x.s, .int .i64 x.st, .int .i64 x.en] 32)) w1.heap.size r.id r.a r.b r.c v n c := (rg_new w1 r.id r.a r.b r.c v n c 28).alloc _
  have E2 : OpAt ((w1.alloc (.cells #[.int .i64 r.id, .int .i64 r.a, .int .i64 r.b, .int .i64 r.c, .slice v n c] 28)).alloc (.cells #[.int .i64 x.k, .int .i64 x.t, .int .i64 x.id, .int .i64 x.pa, .string x.s, .int .i64 x.st, .int .i64 x.en] 32)) (w1.alloc (.cells #[.int .i64 r.id, .int .i64 r.a, .int .i64 r.b, .int .i64 r.c, .slice v n c] 28)).heap.size x := op_new (w1.alloc (.cells #[.int .i64 r.id, .int .i64 r.a, .int .i64 r.b, .int .i64 r.c, .slice v n c] 28)) x 32
  rw [show (w1.alloc (.cells #[.int .i64 r.id, .int .i64 r.a, .int .i64 r.b, .int .i64 r.c, .slice v n c] 28)).heap.size = w1.heap.size + 1 by simp] at E2
  go_upto_region 4 with fail
  obtain ⟨w2, hw2⟩ : ∃ W, ((w1.alloc (.cells #[.int .i64 r.id, .int .i64 r.a, .int .i64 r.b, .int .i64 r.c, .slice v n c] 28)).alloc (.cells #[.int .i64 x.k, .int .i64 x.t, .int .i64 x.id, .int .i64 x.pa, .string x.s, .int .i64 x.st, .int .i64 x.en] 32)) = W := ⟨_, rfl⟩
  rw [hw2] at hb2 A2 E2 ⊢
  clear hw2
  have B2 := B1.trans (hb2.mono B1.size)
  have hs2 := hb2.size
  obtain ⟨gE, hgE⟩ : ∃ g, Hid (w1.heap.size + 1 = g) := ⟨_, rfl⟩
  rw [hgE.out] at E2 ⊢
  obtain ⟨gA, hgA⟩ : ∃ g, Hid (w1.heap.size = g) := ⟨_, rfl⟩
  rw [hgA.out] at A2 ⊢
  have u2 : IsUpds w2 v n c r.us := u1.below hb2
  clear u1
  obtain ⟨d0, d1, d2, d3, d4⟩ := A2.cells
  have dl := A2.lt
  obtain ⟨e0, e1, e2, e3, e4, e5, e6⟩ := OpAt.cells E2
  have el := E2.lt
  go_wp2_with fail
  have js := issued_impl s0 s1 s2 s3 s4 r x now _ _ _ _ (S.below B2) u2 hxm
  unfold IsS RgD at js
  rw [HX.out, HU.out, HK.out, HQ.out] at js
  refine js.mono ?_
  clear js
  rintro e w3 ⟨⟨_, rfl, aN, cN, rfl, mN⟩, hb3⟩
  have B3 := B2.trans (hb3.mono B2.size)
  have hs3 := hb3.size
  have xN3 := mN.upds HQ.out HTX.out
  have u3 : IsUpds w3 v n c r.us := u2.below hb3
  have A3 : RgAt w3 gA r.id r.a r.b r.c v n c := RowAt.below A2 hb3
  have E3 : OpAt w3 gE x := RowAt.below E2 hb3
  clear u2 A2 E2
  clear d0 d1 d2 d3 d4 dl
  clear e0 e1 e2 e3 e4 e5 e6 el
  have hb4 : Below w3.heap.size w3 ((w3.alloc (.cells #[.int .i64 T.id, .int .i64 T.a, .int .i64 T.b, .int .i64 T.c, .slice aN q cN] 28)).alloc (.cells #[.int .i64 U.dr, .int .i64 U.dn, .int .i64 U.sw, .int .i64 U.sc, .int .i64 U.sr, .int .i64 U.k, .int .i64 U.tr, .int .i64 U.id, .int .i64 U.pa, .string U.s, .int .i64 U.st, .int .i64 U.en, .int .i64 U.lv] 38)) := ((Below.refl _ _).alloc (Nat.le_refl _) _).alloc (by simp <;> omega) _
  have N4 : RgAt ((w3.alloc (.cells #[.int .i64 T.id, .int .i64 T.a, .int .i64 T.b, .int .i64 T.c, .slice aN q cN] 28)).alloc (.cells #[.int .i64 U.dr, .int .i64 U.dn, .int .i64 U.sw, .int .i64 U.sc, .int .i64 U.sr, .int .i64 U.k, .int .i64 U.tr, .int .i64 U.id, .int .i64 U.pa, .string U.s, .int .i64 U.st, .int .i64 U.en, .int .i64 U.lv] 38)) w3.heap.size T.id T.a T.b T.c aN q cN := (rg_new w3 T.id T.a T.b T.c aN q cN 28).alloc _
  have V4 : RowAt ((w3.alloc (.cells #[.int .i64 T.id, .int .i64 T.a, .int .i64 T.b, .int .i64 T.c, .slice aN q cN] 28)).alloc (.cells #[.int .i64 U.dr, .int .i64 U.dn, .int .i64 U.sw, .int .i64 U.sc, .int .i64 U.sr, .int .i64 U.k, .int .i64 U.tr, .int .i64 U.id, .int .i64 U.pa, .string U.s, .int .i64 U.st, .int .i64 U.en, .int .i64 U.lv] 38)) (w3.alloc (.cells #[.int .i64 T.id, .int .i64 T.a, .int .i64 T.b, .int .i64 T.c, .slice aN q cN] 28)).heap.size 13 (uq U) := uq_new (w3.alloc (.cells #[.int .i64 T.id, .int .i64 T.a, .int .i64 T.b, .int .i64 T.c, .slice aN q cN] 28)) U 38
  rw [show (w3.alloc (.cells #[.int .i64 T.id, .int .i64 T.a, .int .i64 T.b, .int .i64 T.c, .slice aN q cN] 28)).heap.size = w3.heap.size + 1 by simp] at V4
  go_upto_region 5 with fail
  obtain ⟨w4, hw4⟩ : ∃ W, ((w3.alloc (.cells #[.int .i64 T.id, .int .i64 T.a, .int .i64 T.b, .int .i64 T.c, .slice aN q cN] 28)).alloc (.cells #[.int .i64 U.dr, .int .i64 U.dn, .int .i64 U.sw, .int .i64 U.sc, .int .i64 U.sr, .int .i64 U.k, .int .i64 U.tr, .int .i64 U.id, .int .i64 U.pa, .string U.s, .int .i64 U.st, .int .i64 U.en, .int .i64 U.lv] 38)) = W := ⟨_, rfl⟩
  rw [hw4] at hb4 N4 V4 ⊢
  clear hw4
  have B4 := B3.trans (hb4.mono B3.size)
  have hs4 := hb4.size
  obtain ⟨gV, hgV⟩ : ∃ g, Hid (w3.heap.size + 1 = g) := ⟨_, rfl⟩
  rw [hgV.out] at V4 ⊢
  obtain ⟨gN, hgN⟩ : ∃ g, Hid (w3.heap.size = g) := ⟨_, rfl⟩
  rw [hgN.out] at N4 ⊢
  have u4 : IsUpds w4 v n c r.us := u3.below hb4
  have A4 : RgAt w4 gA r.id r.a r.b r.c v n c := RowAt.below A3 hb4
  have E4 : OpAt w4 gE x := RowAt.below E3 hb4
  have xN4 : IsUpds w4 aN q cN T.us := xN3.below hb4
  clear u3 A3 E3 xN3
  obtain ⟨d0, d1, d2, d3, d4⟩ := A4.cells
  have dl := A4.lt
  obtain ⟨e0, e1, e2, e3, e4, e5, e6⟩ := OpAt.cells E4
  have el := E4.lt
  go_wp2_with fail
  have js := issued_spec r x now _ _ _ _ u4 hxm
  unfold IsS RgD at js
  rw [HX.out, HU.out, HK.out, HQ.out] at js
  refine js.mono ?_
  clear js
  rintro e w5 ⟨⟨_, rfl, aW, cW, rfl, mW⟩, hb5⟩
  have B5 := B4.trans (hb5.mono B4.size)
  have hs5 := hb5.size
  have xW5 := mW.upds HQ.out HTX.out
  have u5 : IsUpds w5 v n c r.us := u4.below hb5
  have A5 : RgAt w5 gA r.id r.a r.b r.c v n c := RowAt.below A4 hb5
  have E5 : OpAt w5 gE x := RowAt.below E4 hb5
  have xN5 : IsUpds w5 aN q cN T.us := xN4.below hb5
  have N5 : RgAt w5 gN T.id T.a T.b T.c aN q cN := RowAt.below N4 hb5
  have V5 : RowAt w5 gV 13 (uq U) := RowAt.below V4 hb5
  clear u4 A4 E4 xN4 N4 V4
  clear d0 d1 d2 d3 d4 dl
  clear e0 e1 e2 e3 e4 e5 e6 el
  have hb6 : Below w5.heap.size w5 ((w5.alloc (.cells #[.int .i64 T.id, .int .i64 T.a, .int .i64 T.b, .int .i64 T.c, .slice aW q cW] 28)).alloc (.cells #[.int .i64 U.dr, .int .i64 U.dn, .int .i64 U.sw, .int .i64 U.sc, .int .i64 U.sr, .int .i64 U.k, .int .i64 U.tr, .int .i64 U.id, .int .i64 U.pa, .string U.s, .int .i64 U.st, .int .i64 U.en, .int .i64 U.lv] 38)) := ((Below.refl _ _).alloc (Nat.le_refl _) _).alloc (by simp <;> omega) _
  have W6 : RgAt ((w5.alloc (.cells #[.int .i64 T.id, .int .i64 T.a, .int .i64 T.b, .int .i64 T.c, .slice aW q cW] 28)).alloc (.cells #[.int .i64 U.dr, .int .i64 U.dn, .int .i64 U.sw, .int .i64 U.sc, .int .i64 U.sr, .int .i64 U.k, .int .i64 U.tr, .int .i64 U.id, .int .i64 U.pa, .string U.s, .int .i64 U.st, .int .i64 U.en, .int .i64 U.lv] 38)) w5.heap.size T.id T.a T.b T.c aW q cW := (rg_new w5 T.id T.a T.b T.c aW q cW 28).alloc _
  have Y6 : RowAt ((w5.alloc (.cells #[.int .i64 T.id, .int .i64 T.a, .int .i64 T.b, .int .i64 T.c, .slice aW q cW] 28)).alloc (.cells #[.int .i64 U.dr, .int .i64 U.dn, .int .i64 U.sw, .int .i64 U.sc, .int .i64 U.sr, .int .i64 U.k, .int .i64 U.tr, .int .i64 U.id, .int .i64 U.pa, .string U.s, .int .i64 U.st, .int .i64 U.en, .int .i64 U.lv] 38)) (w5.alloc (.cells #[.int .i64 T.id, .int .i64 T.a, .int .i64 T.b, .int .i64 T.c, .slice aW q cW] 28)).heap.size 13 (uq U) := uq_new (w5.alloc (.cells #[.int .i64 T.id, .int .i64 T.a, .int .i64 T.b, .int .i64 T.c, .slice aW q cW] 28)) U 38
  rw [show (w5.alloc (.cells #[.int .i64 T.id, .int .i64 T.a, .int .i64 T.b, .int .i64 T.c, .slice aW q cW] 28)).heap.size = w5.heap.size + 1 by simp] at Y6
  go_upto_region 6 with fail
  obtain ⟨w6, hw6⟩ : ∃ W, ((w5.alloc (.cells #[.int .i64 T.id, .int .i64 T.a, .int .i64 T.b, .int .i64 T.c, .slice aW q cW] 28)).alloc (.cells #[.int .i64 U.dr, .int .i64 U.dn, .int .i64 U.sw, .int .i64 U.sc, .int .i64 U.sr, .int .i64 U.k, .int .i64 U.tr, .int .i64 U.id, .int .i64 U.pa, .string U.s, .int .i64 U.st, .int .i64 U.en, .int .i64 U.lv] 38)) = W := ⟨_, rfl⟩
  rw [hw6] at hb6 W6 Y6 ⊢
  clear hw6
  have B6 := B5.trans (hb6.mono B5.size)
  have hs6 := hb6.size
  obtain ⟨gY, hgY⟩ : ∃ g, Hid (w5.heap.size + 1 = g) := ⟨_, rfl⟩
  rw [hgY.out] at Y6 ⊢
  obtain ⟨gW, hgW⟩ : ∃ g, Hid (w5.heap.size = g) := ⟨_, rfl⟩
  rw [hgW.out] at W6 ⊢
  have u6 : IsUpds w6 v n c r.us := u5.below hb6
  have A6 : RgAt w6 gA r.id r.a r.b r.c v n c := RowAt.below A5 hb6
  have E6 : OpAt w6 gE x := RowAt.below E5 hb6
  have xN6 : IsUpds w6 aN q cN T.us := xN5.below hb6
  have N6 : RgAt w6 gN T.id T.a T.b T.c aN q cN := RowAt.below N5 hb6
  have V6 : RowAt w6 gV 13 (uq U) := RowAt.below V5 hb6
  have xW6 : IsUpds w6 aW q cW T.us := xW5.below hb6
  clear u5 A5 E5 xN5 N5 V5 xW5
  by_cases hk1 : kc = 1
  ·have q1 : (kc == 1) = true := by simp [hk1]
   obtain ⟨va0, va1, va2, va3, va4, va5, va6, va7, va8, va9, va10, va11, va12⟩ := uq_cells V6
   have val := V6.lt
   obtain ⟨ya0, ya1, ya2, ya3, ya4, ya5, ya6, ya7, ya8, ya9, ya10, ya11, ya12⟩ := uq_cells Y6
   have yal := Y6.lt
   obtain ⟨d0, d1, d2, d3, d4⟩ := N6.cells
   have dl := N6.lt
   obtain ⟨e0, e1, e2, e3, e4⟩ := W6.cells
   have el := W6.lt
   go_wp2_with fail
   have js := sameRegion_self T.id T.a T.b T.c _ _ _ _ _ _ _ xN6 xW6
   refine js.mono ?_
   clear js
   rintro e w7 ⟨rfl, hb7⟩
   have B7 := B6.trans (hb7.mono B6.size)
   have hs7 := hb7.size
   have u7 : IsUpds w7 v n c r.us := u6.below hb7
   have A7 : RgAt w7 gA r.id r.a r.b r.c v n c := RowAt.below A6 hb7
   have E7 : OpAt w7 gE x := RowAt.below E6 hb7
   have xN7 : IsUpds w7 aN q cN T.us := xN6.below hb7
   have N7 : RgAt w7 gN T.id T.a T.b T.c aN q cN := RowAt.below N6 hb7
   have V7 : RowAt w7 gV 13 (uq U) := RowAt.below V6 hb7
   have xW7 : IsUpds w7 aW q cW T.us := xW6.below hb7
   have W7 : RgAt w7 gW T.id T.a T.b T.c aW q cW := RowAt.below W6 hb7
   have Y7 : RowAt w7 gY 13 (uq U) := RowAt.below Y6 hb7
   clear u6 A6 E6 xN6 N6 V6 xW6 W6 Y6
   clear d0 d1 d2 d3 d4 dl
   clear e0 e1 e2 e3 e4 el
   clear va0 ya0 va1 ya1 va2 ya2 va3 ya3 va4 ya4 va5 ya5 va6 ya6 va7 ya7 va8 ya8 va9 ya9 va10 ya10 va11 ya11 va12 ya12 val yal
   obtain ⟨va0, va1, va2, va3, va4, va5, va6, va7, va8, va9, va10, va11, va12⟩ := uq_cells V7
   have val := V7.lt
   obtain ⟨ya0, ya1, ya2, ya3, ya4, ya5, ya6, ya7, ya8, ya9, ya10, ya11, ya12⟩ := uq_cells Y7
   have yal := Y7.lt
   obtain ⟨d0, d1, d2, d3, d4⟩ := N7.cells
   have dl := N7.lt
   obtain ⟨e0, e1, e2, e3, e4⟩ := W7.cells
   have el := W7.lt
   go_wp2_with fail
   have js := sameRegion_self T.id T.a T.b T.c _ _ _ _ _ _ _ xN7 xW7
   refine js.mono ?_
   clear js
   rintro e w8 ⟨rfl, hb8⟩
   have B8 := B7.trans (hb8.mono B7.size)
   have hs8 := hb8.size
   have u8 : IsUpds w8 v n c r.us := u7.below hb8
   have A8 : RgAt w8 gA r.id r.a r.b r.c v n c := RowAt.below A7 hb8
   have E8 : OpAt w8 gE x := RowAt.below E7 hb8
   have xN8 : IsUpds w8 aN q cN T.us := xN7.below hb8
   have N8 : RgAt w8 gN T.id T.a T.b T.c aN q cN := RowAt.below N7 hb8
   have V8 : RowAt w8 gV 13 (uq U) := RowAt.below V7 hb8
   have xW8 : IsUpds w8 aW q cW T.us := xW7.below hb8
   have W8 : RgAt w8 gW T.id T.a T.b T.c aW q cW := RowAt.below W7 hb8
   have Y8 : RowAt w8 gY 13 (uq U) := RowAt.below Y7 hb8
   clear u7 A7 E7 xN7 N7 V7 xW7 W7 Y7
   clear d0 d1 d2 d3 d4 dl
   clear e0 e1 e2 e3 e4 el
   go_wp2_with fail
   go_ret
   exact ⟨rfl, B8⟩
  ·have q1 : (kc == 1) = false := by simp [hk1]
   by_cases hk0 : kc = 0
   ·have q0 : (kc != 0) = false := by simp [hk0]
    have HZ : Hid (M1.rOk r = true ∧ M1.isF x now = false ∧ M1.letsB r.us x = true ∧ (M1.tk r now).ok = true ∧ M1.tOk r.us [M1.nuU r x now] = true) := (by
     have h9 := HK.out
     rw [hk0] at h9
     exact M1.is_zero h9 : _ ∧ _ ∧ _ ∧ _ ∧ _)
    have HI : Hid (T = M1.isN r x now ∧ U = M1.nuU r x now) := (by
     have h9 := M1.is_0 HZ.out.1 HZ.out.2.1 HZ.out.2.2.1 HZ.out.2.2.2.1 HZ.out.2.2.2.2
     exact ⟨HX.out.symm.trans h9.2.1, HU.out.symm.trans h9.2.2⟩ : _ ∧ _)
    have HTU : Hid (T.us = M1.insD r.us (M1.nuU r x now)) := (by rw [HI.out.1]; rfl : _ = _)
    have HTI : Hid (T.id = r.id) := (by rw [HI.out.1]; rfl : _ = _)
    have HTO : Hid (M1.rOk T = true) := (by rw [HI.out.1, M1.nu_reg HZ.out.1 HZ.out.2.2.2.1]; exact HZ.out.2.2.2.2 : _ = _)
    have hqn : Hid (q = n + 1) := (by rw [← HQ.out, ← hne.out, HTU.out]; exact M1.nu_len HZ.out.1 : q = n + 1)
    obtain ⟨va0, va1, va2, va3, va4, va5, va6, va7, va8, va9, va10, va11, va12⟩ := uq_cells V6
    have val := V6.lt
    obtain ⟨ya0, ya1, ya2, ya3, ya4, ya5, ya6, ya7, ya8, ya9, ya10, ya11, ya12⟩ := uq_cells Y6
    have yal := Y6.lt
    obtain ⟨d0, d1, d2, d3, d4⟩ := N6.cells
    have dl := N6.lt
    obtain ⟨e0, e1, e2, e3, e4⟩ := W6.cells
    have el := W6.lt
    go_wp2_with fail
    have js := sameRegion_self T.id T.a T.b T.c _ _ _ _ _ _ _ xN6 xW6
    refine js.mono ?_
    clear js
    rintro e w7 ⟨rfl, hb7⟩
    have B7 := B6.trans (hb7.mono B6.size)
    have hs7 := hb7.size
    have u7 : IsUpds w7 v n c r.us := u6.below hb7
    have A7 : RgAt w7 gA r.id r.a r.b r.c v n c := RowAt.below A6 hb7
    have E7 : OpAt w7 gE x := RowAt.below E6 hb7
    have xN7 : IsUpds w7 aN q cN T.us := xN6.below hb7
    have N7 : RgAt w7 gN T.id T.a T.b T.c aN q cN := RowAt.below N6 hb7
    have V7 : RowAt w7 gV 13 (uq U) := RowAt.below V6 hb7
    have xW7 : IsUpds w7 aW q cW T.us := xW6.below hb7
    have W7 : RgAt w7 gW T.id T.a T.b T.c aW q cW := RowAt.below W6 hb7
    have Y7 : RowAt w7 gY 13 (uq U) := RowAt.below Y6 hb7
    clear u6 A6 E6 xN6 N6 V6 xW6 W6 Y6
    clear d0 d1 d2 d3 d4 dl
    clear e0 e1 e2 e3 e4 el
    clear va0 ya0 va1 ya1 va2 ya2 va3 ya3 va4 ya4 va5 ya5 va6 ya6 va7 ya7 va8 ya8 va9 ya9 va10 ya10 va11 ya11 va12 ya12 val yal
    clear W7
    clear Y7
    clear xW7
    have late : Hid (∀ i, i < n → ((M1.up r.us i).sw < U.sw ∨ ((M1.up r.us i).sw = U.sw ∧ (M1.up r.us i).sc < U.sc))) := fun i hi => by
     rw [HI.out.2]
     exact M1.nu_late HZ.out.1 HZ.out.2.2.2.1 i (by rw [hne.out]; exact hi)
    go_wp2_with fail
    go_loopw [12] (fun i wr => ∃ k : Nat, k ≤ n ∧ i = .int .i64 k ∧ Below w.heap.size w wr ∧ IsUpds wr v n c r.us ∧ RgAt wr gA r.id r.a r.b r.c v n c ∧ OpAt wr gE x ∧ IsUpds wr aN q cN T.us ∧ RgAt wr gN T.id T.a T.b T.c aN q cN ∧ RowAt wr gV 13 (uq U)) (fun i _ => n - (intOf i).toNat)
    case atStart => exact ⟨0, Nat.zero_le _, rfl, B7, u7, A7, E7, xN7, N7, V7⟩
    case round =>
     clear u7 A7 E7 xN7 N7 V7
     obtain ⟨i, hi, rfl, Br, ur, Ar, Er, xNr, Nr, Vr⟩ := hrel
     obtain ⟨d0, d1, d2, d3, d4⟩ := Ar.cells
     have dl := Ar.lt
     by_cases hlt : i < n
     ·rcases ur.hlies with h0 | ⟨d, off, hv, hb, hc⟩
      ·omega
      subst hv
      obtain ⟨z0, z1, z2, z3, z4, z5, z6, z7, z8, z9, z10, z11, z12⟩ := hc i hlt
      clear hc
      have i0 : (0 : Int) ≤ (i : Int) := by omega
      have i1 : (i : Int) < (n : Int) := by omega
      have lt9 := late.out i hlt
      obtain ⟨va0, va1, va2, va3, va4, va5, va6, va7, va8, va9, va10, va11, va12⟩ := uq_cells Vr
      have val := Vr.lt
      obtain ⟨t, ht⟩ : ∃ u, Hid (M1.up r.us i = u) := ⟨_, rfl⟩
      rw [ht.out] at lt9 z0 z1 z2 z3 z4 z5 z6 z7 z8 z9 z10 z11 z12
      have g1 : ¬ U.sw < t.sw := by omega
      have hbx : Below wr.heap.size wr (wr.alloc (.cells #[.int .i64 t.sw, .int .i64 t.sc, .int .i64 t.sr] 25)) := (Below.refl _ _).alloc (Nat.le_refl _) _
      have sx := st_new wr t.sw t.sc t.sr 25
      go_upto_region 14 with fail
      obtain ⟨wx, hwx⟩ : ∃ W, wr.alloc (.cells #[.int .i64 t.sw, .int .i64 t.sc, .int .i64 t.sr] 25) = W := ⟨_, rfl⟩
      rw [hwx] at hbx sx ⊢
      clear hwx
      have ux : IsUpds wx (some ⟨d, off, none⟩) n c r.us := ur.below hbx
      have Ax : RgAt wx gA r.id r.a r.b r.c (some ⟨d, off, none⟩) n c := RowAt.below Ar hbx
      have Ex : OpAt wx gE x := RowAt.below Er hbx
      have xNx : IsUpds wx aN q cN T.us := xNr.below hbx
      have Nx : RgAt wx gN T.id T.a T.b T.c aN q cN := RowAt.below Nr hbx
      have Vx : RowAt wx gV 13 (uq U) := RowAt.below Vr hbx
      have Bx := Br.trans (hbx.mono Br.size)
      clear z0 z1 z2 z3 z4 z5 z6 z7 z8 z9 z10 z11 z12 d0 d1 d2 d3 d4 dl va0 va1 va2 va3 va4 va5 va6 va7 va8 va9 va10 va11 va12 val ur Ar Er xNr Nr Vr
      obtain ⟨k0, k1, k2⟩ := StAt.cells sx
      have kl := sx.lt
      obtain ⟨va0, va1, va2, va3, va4, va5, va6, va7, va8, va9, va10, va11, va12⟩ := uq_cells Vx
      have val := Vx.lt
      by_cases e9 : t.sw = U.sw
      ·have g2 : (t.sw == U.sw) = true := by simp [e9]
       have g3 : ¬ U.sc ≤ t.sc := by omega
       have g4 : decide (U.sw < t.sw) = false := decide_eq_false g1
       have g5 : decide (U.sc ≤ t.sc) = false := decide_eq_false g3
       clear e9 lt9
       go_wp2_with fail
       exact ⟨⟨i + 1, by omega, by go_num, Bx, ux, Ax, Ex, xNx, Nx, Vx⟩, by simp [intOf]; omega⟩
      ·have g2 : (t.sw == U.sw) = false := by simp [e9]
       have g4 : decide (U.sw < t.sw) = false := decide_eq_false g1
       clear e9 lt9
       go_wp2_with fail
       exact ⟨⟨i + 1, by omega, by go_num, Bx, ux, Ax, Ex, xNx, Nx, Vx⟩, by simp [intOf]; omega⟩
     ·have hge : ¬ (i : Int) < (n : Int) := by omega
      obtain ⟨e0, e1, e2, e3, e4, e5, e6⟩ := OpAt.cells Er
      have el := Er.lt
      go_upto_block 2 with fail
      have HV : Hid (¬ x.k = 1 → ¬ x.k = 2 → M1.visB T.us x.t = !(M1.visB r.us x.t)) := (fun h1 h2 => by
       unfold M1.visB
       rw [hxs, hset, Bool.true_and, Bool.true_and]
       have e := M1.nu_level (o := x) (now := now) HZ.out.1 h1 h2
       rw [← HTU.out] at e
       unfold M1.lvT at e
       rw [e]
       unfold M1.evenB
       rcases (by omega : M1.lvl (M1.ofT 3 x.t r.us r.us.length) % 2 = 0 ∨ M1.lvl (M1.ofT 3 x.t r.us r.us.length) % 2 = 1) with q | q
       ·rw [q, show (M1.lvl (M1.ofT 3 x.t r.us r.us.length) + 1) % 2 = 1 by omega]; rfl
       ·rw [q, show (M1.lvl (M1.ofT 3 x.t r.us r.us.length) + 1) % 2 = 0 by omega]; rfl : ¬ x.k = 1 → ¬ x.k = 2 → M1.visB T.us x.t = !(M1.visB r.us x.t))
      have HL := HZ.out.2.2.1
      go_cut [] (fun wc => Below w.heap.size w wc ∧ IsUpds wc v n c r.us ∧ RgAt wc gA r.id r.a r.b r.c v n c ∧ OpAt wc gE x ∧ IsUpds wc aN q cN T.us ∧ RgAt wc gN T.id T.a T.b T.c aN q cN ∧ RowAt wc gV 13 (uq U))
      case first =>
       obtain ⟨n0, n1, n2, n3, n4⟩ := Nr.cells
       have nl := Nr.lt
       rcases M1.isF_kind HZ.out.2.1 with k1 | k2 | k3 | k4
       ·have q2 : (x.k == 2) = false := by simp [k1]
        have q3 : (x.k == 3) = false := by simp [k1]
        have q4 : (x.k == 4) = false := by simp [k1]
        clear k1
        go_wp2_with fail
        go_meet
        exact ⟨Br, ur, Ar, Er, xNr, Nr, Vr⟩
       ·have q2 : (x.k == 2) = true := by simp [k2]
        have hkp : M1.keptB T.us x.t = true := by
         unfold M1.keptB
         rw [hxs, Bool.true_and, HTU.out]
         have h9 := M1.nu_kept (now := now) HZ.out.1 k2
         cases e : M1.ofT 2 x.t (M1.insD r.us (M1.nuU r x now)) (M1.insD r.us (M1.nuU r x now)).length with
         | nil => exact absurd e h9
         | cons a b => rfl
        clear k2
        go_wp2_with fail
        have js := kept_impl _ _ _ T.us x.t _ xNr
        rw [hkp] at js
        refine js.mono ?_
        clear js
        rintro e wy ⟨rfl, hby⟩
        have uy : IsUpds wy v n c r.us := ur.below hby
        have Ay : RgAt wy gA r.id r.a r.b r.c v n c := RowAt.below Ar hby
        have Ey : OpAt wy gE x := RowAt.below Er hby
        have xNy : IsUpds wy aN q cN T.us := xNr.below hby
        have Ny : RgAt wy gN T.id T.a T.b T.c aN q cN := RowAt.below Nr hby
        have Vy : RowAt wy gV 13 (uq U) := RowAt.below Vr hby
        have By := Br.trans (hby.mono Br.size)
        go_wp2_with fail
        go_meet
        exact ⟨By, uy, Ay, Ey, xNy, Ny, Vy⟩
       ·skip
        have q2 : (x.k == 2) = false := by simp [k3]
        have q3 : (x.k == 3) = true := by simp [k3]
        have hv1 : M1.visB r.us x.t = true := by
         have h9 := HL
         rw [M1.lets_3 hset k3] at h9
         exact h9
        have hv2 : M1.visB T.us x.t = false := by rw [HV.out (by omega) (by omega), hv1]; rfl
        clear k3
        go_wp2_with fail
        have js := visible_impl _ _ _ T.us x.t _ xNr
        rw [hv2] at js
        refine js.mono ?_
        clear js
        rintro e wy ⟨rfl, hby⟩
        have uy : IsUpds wy v n c r.us := ur.below hby
        have Ay : RgAt wy gA r.id r.a r.b r.c v n c := RowAt.below Ar hby
        have Ey : OpAt wy gE x := RowAt.below Er hby
        have xNy : IsUpds wy aN q cN T.us := xNr.below hby
        have Ny : RgAt wy gN T.id T.a T.b T.c aN q cN := RowAt.below Nr hby
        have Vy : RowAt wy gV 13 (uq U) := RowAt.below Vr hby
        have By := Br.trans (hby.mono Br.size)
        clear d0 d1 d2 d3 d4 dl n0 n1 n2 n3 n4 nl e0 e1 e2 e3 e4 e5 e6 el ur Ar Er xNr Nr Vr
        obtain ⟨d0, d1, d2, d3, d4⟩ := Ay.cells
        have dl := Ay.lt
        obtain ⟨e0, e1, e2, e3, e4, e5, e6⟩ := OpAt.cells Ey
        have el := Ey.lt
        go_wp2_with fail
        have js := visible_impl _ _ _ r.us x.t _ uy
        rw [hv1] at js
        refine js.mono ?_
        clear js
        rintro e wz ⟨rfl, hbz⟩
        have uz : IsUpds wz v n c r.us := uy.below hbz
        have Az : RgAt wz gA r.id r.a r.b r.c v n c := RowAt.below Ay hbz
        have Ez : OpAt wz gE x := RowAt.below Ey hbz
        have xNz : IsUpds wz aN q cN T.us := xNy.below hbz
        have Nz : RgAt wz gN T.id T.a T.b T.c aN q cN := RowAt.below Ny hbz
        have Vz : RowAt wz gV 13 (uq U) := RowAt.below Vy hbz
        have Bz := By.trans (hbz.mono By.size)
        go_wp2_with fail
        go_meet
        exact ⟨Bz, uz, Az, Ez, xNz, Nz, Vz⟩
       ·skip
        have q2 : (x.k == 2) = false := by simp [k4]
        have q3 : (x.k == 3) = false := by simp [k4]
        have q4 : (x.k == 4) = true := by simp [k4]
        have hv1 : M1.visB r.us x.t = false := by
         have h9 := HL
         rw [M1.lets_4 hset k4] at h9
         simpa using h9
        have hv2 : M1.visB T.us x.t = true := by rw [HV.out (by omega) (by omega), hv1]; rfl
        clear k4
        go_wp2_with fail
        have js := visible_impl _ _ _ T.us x.t _ xNr
        rw [hv2] at js
        refine js.mono ?_
        clear js
        rintro e wy ⟨rfl, hby⟩
        have uy : IsUpds wy v n c r.us := ur.below hby
        have Ay : RgAt wy gA r.id r.a r.b r.c v n c := RowAt.below Ar hby
        have Ey : OpAt wy gE x := RowAt.below Er hby
        have xNy : IsUpds wy aN q cN T.us := xNr.below hby
        have Ny : RgAt wy gN T.id T.a T.b T.c aN q cN := RowAt.below Nr hby
        have Vy : RowAt wy gV 13 (uq U) := RowAt.below Vr hby
        have By := Br.trans (hby.mono Br.size)
        clear d0 d1 d2 d3 d4 dl n0 n1 n2 n3 n4 nl e0 e1 e2 e3 e4 e5 e6 el ur Ar Er xNr Nr Vr
        obtain ⟨d0, d1, d2, d3, d4⟩ := Ay.cells
        have dl := Ay.lt
        obtain ⟨e0, e1, e2, e3, e4, e5, e6⟩ := OpAt.cells Ey
        have el := Ey.lt
        go_wp2_with fail
        have js := visible_impl _ _ _ r.us x.t _ uy
        rw [hv1] at js
        refine js.mono ?_
        clear js
        rintro e wz ⟨rfl, hbz⟩
        have uz : IsUpds wz v n c r.us := uy.below hbz
        have Az : RgAt wz gA r.id r.a r.b r.c v n c := RowAt.below Ay hbz
        have Ez : OpAt wz gE x := RowAt.below Ey hbz
        have xNz : IsUpds wz aN q cN T.us := xNy.below hbz
        have Nz : RgAt wz gN T.id T.a T.b T.c aN q cN := RowAt.below Ny hbz
        have Vz : RowAt wz gV 13 (uq U) := RowAt.below Vy hbz
        have Bz := By.trans (hbz.mono By.size)
        go_wp2_with fail
        go_meet
        exact ⟨Bz, uz, Az, Ez, xNz, Nz, Vz⟩
      case rest =>
       obtain ⟨Bc, uc, Ac, Ec, xNc, Nc, Vc⟩ := hcut
       clear d0 d1 d2 d3 d4 dl e0 e1 e2 e3 e4 e5 e6 el ur Ar Er xNr Nr Vr
       obtain ⟨d0, d1, d2, d3, d4⟩ := Ac.cells
       have dl := Ac.lt
       obtain ⟨e0, e1, e2, e3, e4, e5, e6⟩ := OpAt.cells Ec
       have el := Ec.lt
       obtain ⟨n0, n1, n2, n3, n4⟩ := Nc.cells
       have nl := Nc.lt
       obtain ⟨va0, va1, va2, va3, va4, va5, va6, va7, va8, va9, va10, va11, va12⟩ := uq_cells Vc
       have val := Vc.lt
       have hid := M1.inB_true (M1.rOk_all HZ.out.1).1
       obtain ⟨ln, hln⟩ : ∃ l, Hid (M1.lastN r.us r.us.length r.id = l) := ⟨_, rfl⟩
       have hlb : 0 ≤ ln ∧ ln ≤ 1000000 := by rw [← hln.out]; exact M1.lastN_bd (M1.setOk_all hset) r.id _ (Nat.le_refl _)
       have hl0 := hlb.1
       have hl1 := hlb.2
       have hU1 : U.dr = r.id := by rw [HI.out.2]; exact (M1.nuU_dot r x now).1
       have hU2 : U.dn = ln + 1 := by rw [HI.out.2, ← hln.out]; exact (M1.nuU_dot r x now).2.1
       have hU3 : U.tr = x.t := by
        rw [HI.out.2]
        unfold M1.nuU
        split
        ·rfl
        ·split <;> rfl
       have b1 : (U.dr == r.id) = true := by simp [hU1]
       have b2 : (U.dn == ln + 1) = true := by simp [hU2]
       have b3 : (U.tr == x.t) = true := by simp [hU3]
       have b4 : ((q : Int) == (n : Int) + 1) = true := by rw [hqn.out]; simp
       have hV9 : Hid (M1.vectorOf r.us = M1.vecU r.us) := (by unfold M1.vectorOf; rw [if_pos hset] : _ = _)
       have hP9 : Hid (ofP (M1.vecU r.us) r.id = ln) := (by unfold ofP; rw [if_pos (M1.vecU_ok (M1.setOk_all hset)), M1.vecU_lk (M1.setOk_all hset) hid.1 hid.2]; exact hln.out : _ = _)
       have hin : Hid (∀ i, i < n → ∃ j, j < q ∧ M1.up T.us j = M1.up r.us i) := fun i hi => by
        rw [← hne.out] at hi
        have := (M1.nu_mem (o := x) (now := now) HZ.out.1 _).2 (.inr (M1.up_mem hi))
        rw [← HTU.out] at this
        obtain ⟨j, hj, e⟩ := M1.mem_up this
        exact ⟨j, by rw [← HQ.out]; exact hj, e⟩
       clear hU1 hU2 hU3 hqn
       go_wp2_with fail
       refine wp_region_held_drew (S := fun w' => Kp wc w') (by kernel_rfl) ?_ (fun hHeld => ?_)
       ·exact kp_zero _
       refine tZ (i:=0) (v:=?_) rfl (.inl ⟨by rfl, ?_⟩) hHeld ?_
       rotate_left
       ·(intro w hSw; (try dsimp only at hSw); go_simp; try (with_reducible rfl))
       (try simp only [Act.put, zZ])
       refine wpAnyH_ready (rs := [1]) (by kernel_rfl) (by simp) ?_
       refine AllReadyH.cons (o := _) rfl (fun K hK => ?_) AllReadyH.nil
       go_simp
       (have js := regionOk_impl T.id T.a T.b T.c _ _ _ T.us _ (xNc.below hHeld.1); rw [show M1.regOk T.id T.a T.b T.c T.us = true from HTO.out] at js; refine js.mono ?_; clear js; rintro e wd ⟨rfl, hbd⟩; go_wp2_with fail)
       refine hK.out _ _ ?_ (fun hHeld2 => ?_)
       ·exact kp_step hHeld hbd
       clear hK K hHeld
       have hHeld := hHeld2
       clear hHeld2
       (try simp only [Act.put, zZ])
       refine tZ (i:=2) (v:=?_) rfl (.inl ⟨by rfl, ?_⟩) hHeld ?_
       rotate_left
       ·(intro w hSw; (try dsimp only at hSw); go_simp; try (with_reducible rfl))
       (try simp only [Act.put, zZ])
       refine tZ (i:=3) (v:=?_) rfl (.inl ⟨by rfl, ?_⟩) hHeld ?_
       rotate_left
       ·(intro w hSw; (try dsimp only at hSw); go_simp; try (with_reducible rfl))
       (try simp only [Act.put, zZ])
       refine tZ (i:=4) (v:=?_) rfl (.inl ⟨by rfl, ?_⟩) hHeld ?_
       rotate_left
       ·(intro w hSw; (try dsimp only at hSw); go_simp; try (with_reducible rfl))
       (try simp only [Act.put, zZ])
       refine tZ (i:=5) (v:=?_) rfl (.inl ⟨by rfl, ?_⟩) hHeld ?_
       rotate_left
       ·(intro w hSw; (try dsimp only at hSw); go_simp; try (with_reducible rfl))
       (try simp only [Act.put, zZ])
       refine tZ (i:=6) (v:=?_) rfl (.inl ⟨by rfl, ?_⟩) hHeld ?_
       rotate_left
       ·(intro w hSw; (try dsimp only at hSw); go_simp; try (with_reducible rfl))
       (try simp only [Act.put, zZ])
       refine tZ (i:=7) (v:=?_) rfl (.inl ⟨by rfl, ?_⟩) hHeld ?_
       rotate_left
       ·(intro w hSw; (try dsimp only at hSw); go_simp; try (with_reducible rfl))
       (try simp only [Act.put, zZ])
       refine tZ (i:=8) (v:=?_) rfl (.inl ⟨by rfl, ?_⟩) hHeld ?_
       rotate_left
       ·(intro w hSw; (try dsimp only at hSw); go_simp; try (with_reducible rfl))
       (try simp only [Act.put, zZ])
       refine tZ (i:=9) (v:=.int .i64 ((n : Int) + 1)) rfl (.inl ⟨by rfl, ?_⟩) hHeld ?_
       ·(intro w hSw; (try dsimp only at hSw); go_simp; (try exact IntWalk.i64_in _ (by omega)))
       (try simp only [Act.put, zZ])
       refine tZ (i:=10) (v:=.bool true) rfl (.inl ⟨by rfl, ?_⟩) hHeld ?_
       ·(intro w hSw; (try dsimp only at hSw); go_simp; (try (first | exact congrArg Value.bool b4 | simp [b4])))
       (try simp only [Act.put, zZ])
       refine tZ (i:=11) (v:=?_) rfl (.inl ⟨by rfl, ?_⟩) hHeld ?_
       rotate_left
       ·(intro w hSw; (try dsimp only at hSw); go_simp; try (with_reducible rfl))
       (try simp only [Act.put, zZ])
       refine tZ (i:=12) (v:=?_) rfl (.inl ⟨by rfl, ?_⟩) hHeld ?_
       rotate_left
       ·(intro w hSw; (try dsimp only at hSw); go_simp; try (with_reducible rfl))
       (try simp only [Act.put, zZ])
       refine tZ (i:=13) (v:=?_) rfl (.inl ⟨by rfl, ?_⟩) hHeld ?_
       rotate_left
       ·(intro w hSw; (try dsimp only at hSw); go_simp; try (with_reducible rfl))
       (try simp only [Act.put, zZ])
       refine tZ (i:=14) (v:=?_) rfl (.inl ⟨by rfl, ?_⟩) hHeld ?_
       rotate_left
       ·(intro w hSw; (try dsimp only at hSw); go_simp; try (with_reducible rfl))
       (try simp only [Act.put, zZ])
       refine tZ (i:=15) (v:=?_) rfl (.inl ⟨by rfl, ?_⟩) hHeld ?_
       rotate_left
       ·(intro w hSw; (try dsimp only at hSw); go_simp; try (with_reducible rfl))
       (try simp only [Act.put, zZ])
       refine tZ (i:=16) (v:=?_) rfl (.inl ⟨by rfl, ?_⟩) hHeld ?_
       rotate_left
       ·(intro w hSw; (try dsimp only at hSw); go_simp; try (with_reducible rfl))
       (try simp only [Act.put, zZ])
       refine wpAnyH_ready (rs := [17]) (by kernel_rfl) (by simp) ?_
       refine AllReadyH.cons (o := _) rfl (fun K hK => ?_) AllReadyH.nil
       go_simp
       (refine (within_yes _ _ _ _ _ _ r.us T.us _ (uc.below hHeld.1) (xNc.below hHeld.1) hin).mono ?_; rintro e we ⟨rfl, hbe⟩; go_wp2_with fail)
       refine hK.out _ _ ?_ (fun hHeld2 => ?_)
       ·exact kp_step hHeld hbe
       clear hK K hHeld
       have hHeld := hHeld2
       clear hHeld2
       (try simp only [Act.put, zZ])
       refine tZ (i:=18) (v:=?_) rfl (.inl ⟨by rfl, ?_⟩) hHeld ?_
       rotate_left
       ·(intro w hSw; (try dsimp only at hSw); go_simp; try (with_reducible rfl))
       (try simp only [Act.put, zZ])
       refine tZ (i:=19) (v:=?_) rfl (.inl ⟨by rfl, ?_⟩) hHeld ?_
       rotate_left
       ·(intro w hSw; (try dsimp only at hSw); go_simp; try (with_reducible rfl))
       (try simp only [Act.put, zZ])
       refine tZ (i:=20) (v:=?_) rfl (.inl ⟨by rfl, ?_⟩) hHeld ?_
       rotate_left
       ·(intro w hSw; (try dsimp only at hSw); go_simp; try (with_reducible rfl))
       (try simp only [Act.put, zZ])
       refine tZ (i:=21) (v:=?_) rfl (.inl ⟨by rfl, ?_⟩) hHeld ?_
       rotate_left
       ·(intro w hSw; (try dsimp only at hSw); go_simp; try (with_reducible rfl))
       (try simp only [Act.put, zZ])
       refine tZ (i:=22) (v:=?_) rfl (.inl ⟨by rfl, ?_⟩) hHeld ?_
       rotate_left
       ·(intro w hSw; (try dsimp only at hSw); go_simp; try (with_reducible rfl))
       (try simp only [Act.put, zZ])
       refine tZ (i:=23) (v:=?_) rfl (.inl ⟨by rfl, ?_⟩) hHeld ?_
       rotate_left
       ·(intro w hSw; (try dsimp only at hSw); go_simp; try (with_reducible rfl))
       (try simp only [Act.put, zZ])
       refine tZ (i:=24) (v:=?_) rfl (.inl ⟨by rfl, ?_⟩) hHeld ?_
       rotate_left
       ·(intro w hSw; (try dsimp only at hSw); go_simp; try (with_reducible rfl))
       (try simp only [Act.put, zZ])
       refine tZ (i:=25) (v:=.bool true) rfl (.inl ⟨by rfl, ?_⟩) hHeld ?_
       ·(intro w hSw; (try dsimp only at hSw); go_simp; (try (first | exact congrArg Value.bool b1 | simp [b1])))
       (try simp only [Act.put, zZ])
       refine tZ (i:=26) (v:=?_) rfl (.inl ⟨by rfl, ?_⟩) hHeld ?_
       rotate_left
       ·(intro w hSw; (try dsimp only at hSw); go_simp; try (with_reducible rfl))
       (try simp only [Act.put, zZ])
       refine tZ (i:=27) (v:=?_) rfl (.inl ⟨by rfl, ?_⟩) hHeld ?_
       rotate_left
       ·(intro w hSw; (try dsimp only at hSw); go_simp; try (with_reducible rfl))
       (try simp only [Act.put, zZ])
       refine tZ (i:=28) (v:=?_) rfl (.inl ⟨by rfl, ?_⟩) hHeld ?_
       rotate_left
       ·(intro w hSw; (try dsimp only at hSw); go_simp; try (with_reducible rfl))
       (try simp only [Act.put, zZ])
       refine tZ (i:=29) (v:=?_) rfl (.inl ⟨by rfl, ?_⟩) hHeld ?_
       rotate_left
       ·(intro w hSw; (try dsimp only at hSw); go_simp; try (with_reducible rfl))
       (try simp only [Act.put, zZ])
       refine tZ (i:=30) (v:=?_) rfl (.inl ⟨by rfl, ?_⟩) hHeld ?_
       rotate_left
       ·(intro w hSw; (try dsimp only at hSw); go_simp; try (with_reducible rfl))
       (try simp only [Act.put, zZ])
       refine tZ (i:=31) (v:=?_) rfl (.inl ⟨by rfl, ?_⟩) hHeld ?_
       rotate_left
       ·(intro w hSw; (try dsimp only at hSw); go_simp; try (with_reducible rfl))
       (try simp only [Act.put, zZ])
       refine tZ (i:=32) (v:=?_) rfl (.inl ⟨by rfl, ?_⟩) hHeld ?_
       rotate_left
       ·(intro w hSw; (try dsimp only at hSw); go_simp; try (with_reducible rfl))
       (try simp only [Act.put, zZ])
       refine tZ (i:=34) (v:=?_) rfl (.inl ⟨by rfl, ?_⟩) hHeld ?_
       rotate_left
       ·(intro w hSw; (try dsimp only at hSw); go_simp; try (with_reducible rfl))
       (try simp only [Act.put, zZ])
       refine tZ (i:=35) (v:=?_) rfl (.inl ⟨by rfl, ?_⟩) hHeld ?_
       rotate_left
       ·(intro w hSw; (try dsimp only at hSw); go_simp; try (with_reducible rfl))
       (try simp only [Act.put, zZ])
       refine wpAnyH_ready (rs := [33]) (by kernel_rfl) (by simp) ?_
       refine AllReadyH.cons (o := _) rfl (fun K hK => ?_) AllReadyH.nil
       go_simp
       (have js := vectorOf_impl _ _ _ r.us _ (uc.below hHeld.1); rw [hV9.out] at js; refine js.mono ?_; clear js; rintro e wf ⟨⟨v5, rfl, own5⟩, hbf⟩; obtain ⟨dv, dc, rfl, mv5⟩ := MV.of_owns own5; go_wp2_with fail)
       refine hK.out _ _ ?_ (fun hHeld2 => ?_)
       ·exact kp_step hHeld hbf
       clear hK K hHeld
       have hHeld := hHeld2
       clear hHeld2
       (try simp only [Act.put, zZ])
       refine wpAnyH_ready (rs := [36]) (by kernel_rfl) (by simp) ?_
       refine AllReadyH.cons (o := _) rfl (fun K hK => ?_) AllReadyH.nil
       go_simp
       (have js := vecOf_impl _ _ _ (M1.vecU r.us) r.id _ (mv5.vec rfl); rw [hP9.out] at js; refine js.mono ?_; clear js; rintro e wg ⟨rfl, hbg⟩; go_wp2_with fail)
       refine hK.out _ _ ?_ (fun hHeld2 => ?_)
       ·exact kp_step hHeld hbg
       clear hK K hHeld
       have hHeld := hHeld2
       clear hHeld2
       (try simp only [Act.put, zZ])
       refine tZ (i:=37) (v:=.int .i64 (ln + 1)) rfl (.inl ⟨by rfl, ?_⟩) hHeld ?_
       ·(intro w hSw; (try dsimp only at hSw); go_simp; (try exact IntWalk.i64_in _ (by omega)))
       (try simp only [Act.put, zZ])
       refine tZ (i:=38) (v:=.bool true) rfl (.inl ⟨by rfl, ?_⟩) hHeld ?_
       ·(intro w hSw; (try dsimp only at hSw); go_simp; (try (first | exact congrArg Value.bool b2 | simp [b2])))
       (try simp only [Act.put, zZ])
       refine tZ (i:=39) (v:=?_) rfl (.inl ⟨by rfl, ?_⟩) hHeld ?_
       rotate_left
       ·(intro w hSw; (try dsimp only at hSw); go_simp; try (with_reducible rfl))
       (try simp only [Act.put, zZ])
       refine tZ (i:=40) (v:=?_) rfl (.inl ⟨by rfl, ?_⟩) hHeld ?_
       rotate_left
       ·(intro w hSw; (try dsimp only at hSw); go_simp; try (with_reducible rfl))
       (try simp only [Act.put, zZ])
       refine tZ (i:=41) (v:=?_) rfl (.inl ⟨by rfl, ?_⟩) hHeld ?_
       rotate_left
       ·(intro w hSw; (try dsimp only at hSw); go_simp; try (with_reducible rfl))
       (try simp only [Act.put, zZ])
       refine tZ (i:=42) (v:=?_) rfl (.inl ⟨by rfl, ?_⟩) hHeld ?_
       rotate_left
       ·(intro w hSw; (try dsimp only at hSw); go_simp; try (with_reducible rfl))
       (try simp only [Act.put, zZ])
       refine tZ (i:=43) (v:=?_) rfl (.inl ⟨by rfl, ?_⟩) hHeld ?_
       rotate_left
       ·(intro w hSw; (try dsimp only at hSw); go_simp; try (with_reducible rfl))
       (try simp only [Act.put, zZ])
       refine tZ (i:=44) (v:=?_) rfl (.inl ⟨by rfl, ?_⟩) hHeld ?_
       rotate_left
       ·(intro w hSw; (try dsimp only at hSw); go_simp; try (with_reducible rfl))
       (try simp only [Act.put, zZ])
       refine tZ (i:=45) (v:=.bool true) rfl (.inl ⟨by rfl, ?_⟩) hHeld ?_
       ·(intro w hSw; (try dsimp only at hSw); go_simp; (try (first | exact congrArg Value.bool b3 | simp [b3])))
       (try simp only [Act.put, zZ])
       refine tZ (i:=46) (v:=?_) rfl (.inl ⟨by rfl, ?_⟩) hHeld ?_
       rotate_left
       ·(intro w hSw; (try dsimp only at hSw); go_simp; try (with_reducible rfl))
       (try simp only [Act.put, zZ])
       refine tZ (i:=47) (v:=?_) rfl (.inl ⟨by rfl, ?_⟩) hHeld ?_
       rotate_left
       ·(intro w hSw; (try dsimp only at hSw); go_simp; try (with_reducible rfl))
       (try simp only [Act.put, zZ])
       refine wpAnyH_done (by kernel_rfl) ?_ _
       have Bz := Bc.trans (hHeld.1.mono Bc.size)
       clear hHeld
       go_wp2_with fail
       go_ret
       exact ⟨rfl, Bz⟩
   ·have q0 : (kc != 0) = true := by simp [hk0]
    obtain rfl : r = T := (by
     symm
     have h9 := HK.out
     rcases M1.is_cases r x now with q | q | q
     ·rw [q.2.1] at h9; exact absurd h9.symm hk1
     ·exact HX.out.symm.trans q.2.2.1
     ·rw [q.2.1] at h9; exact absurd h9.symm hk0)
    have hnq : n = q := hne.out.symm.trans HQ.out
    subst hnq
    obtain ⟨va0, va1, va2, va3, va4, va5, va6, va7, va8, va9, va10, va11, va12⟩ := uq_cells V6
    have val := V6.lt
    obtain ⟨ya0, ya1, ya2, ya3, ya4, ya5, ya6, ya7, ya8, ya9, ya10, ya11, ya12⟩ := uq_cells Y6
    have yal := Y6.lt
    obtain ⟨d0, d1, d2, d3, d4⟩ := N6.cells
    have dl := N6.lt
    obtain ⟨e0, e1, e2, e3, e4⟩ := W6.cells
    have el := W6.lt
    go_wp2_with fail
    have js := sameRegion_self r.id r.a r.b r.c _ _ _ _ _ _ _ xN6 xW6
    refine js.mono ?_
    clear js
    rintro e w7 ⟨rfl, hb7⟩
    have B7 := B6.trans (hb7.mono B6.size)
    have hs7 := hb7.size
    have u7 : IsUpds w7 v n c r.us := u6.below hb7
    have A7 : RgAt w7 gA r.id r.a r.b r.c v n c := RowAt.below A6 hb7
    have E7 : OpAt w7 gE x := RowAt.below E6 hb7
    have xN7 : IsUpds w7 aN n cN r.us := xN6.below hb7
    have N7 : RgAt w7 gN r.id r.a r.b r.c aN n cN := RowAt.below N6 hb7
    have V7 : RowAt w7 gV 13 (uq U) := RowAt.below V6 hb7
    have xW7 : IsUpds w7 aW n cW r.us := xW6.below hb7
    have W7 : RgAt w7 gW r.id r.a r.b r.c aW n cW := RowAt.below W6 hb7
    have Y7 : RowAt w7 gY 13 (uq U) := RowAt.below Y6 hb7
    clear u6 A6 E6 xN6 N6 V6 xW6 W6 Y6
    clear d0 d1 d2 d3 d4 dl
    clear e0 e1 e2 e3 e4 el
    obtain ⟨d0, d1, d2, d3, d4⟩ := N7.cells
    have dl := N7.lt
    obtain ⟨e0, e1, e2, e3, e4⟩ := A7.cells
    have el := A7.lt
    go_wp2_with fail
    have js := sameRegion_self r.id r.a r.b r.c _ _ _ _ _ _ _ xN7 u7
    refine js.mono ?_
    clear js
    rintro e w8 ⟨rfl, hb8⟩
    have B8 := B7.trans (hb8.mono B7.size)
    have hs8 := hb8.size
    have u8 : IsUpds w8 v n c r.us := u7.below hb8
    have A8 : RgAt w8 gA r.id r.a r.b r.c v n c := RowAt.below A7 hb8
    have E8 : OpAt w8 gE x := RowAt.below E7 hb8
    have xN8 : IsUpds w8 aN n cN r.us := xN7.below hb8
    have N8 : RgAt w8 gN r.id r.a r.b r.c aN n cN := RowAt.below N7 hb8
    have V8 : RowAt w8 gV 13 (uq U) := RowAt.below V7 hb8
    have xW8 : IsUpds w8 aW n cW r.us := xW7.below hb8
    have W8 : RgAt w8 gW r.id r.a r.b r.c aW n cW := RowAt.below W7 hb8
    have Y8 : RowAt w8 gY 13 (uq U) := RowAt.below Y7 hb8
    clear u7 A7 E7 xN7 N7 V7 xW7 W7 Y7
    clear d0 d1 d2 d3 d4 dl
    clear e0 e1 e2 e3 e4 el
    go_wp2_with fail
    go_ret
    exact ⟨rfl, B8⟩

theorem own : ownKnob Tryz.prog.godebug = none := by kernel_rfl

theorem laidOut : laidOutB Tryz.prog = true := by kernel_rfl

set_option maxRecDepth 100000 in
theorem door_met (os : Os) (args : Array Value) : laidMetH Tryz.prog Rows.fnIssuedRow.laid ((World.doorLaid Tryz.prog 111 os).forCall (fun _ _ => 0) ⟨#[], args, []⟩).memory :=
 laidMetH_of_parts3 (fuel := 8) (laidMet_of_run' 8 (by kernel_rfl) (by kernel_rfl)) (by kernel_rfl) (by kernel_rfl)

set_option maxRecDepth 100000 in
theorem lifted (os : Os) (started : os.Started) (H : Type) (enc : TypeId × Value → H) :
  ReturnsInHanded {} Tryz.checked os 3 .any (fun w args => (Rows.fnIssuedSpec.pre enc Tryz.prog Tryz.f3 Rows.fnIssuedRow.domain false w args ∧ laidMetH Tryz.prog Rows.fnIssuedRow.laid w) ∧ sizedMet enc Tryz.prog Tryz.f3 (OpenSpec.ofChange Rows.fnIssuedSpec) false w args) (Rows.fnIssuedSpec.post enc Tryz.prog Tryz.f3 false true false false) := by
 refine returnsInHanded_of_change_and (C := Tryz.checked) (X := fun w _ => laidMetH Tryz.prog Rows.fnIssuedRow.laid w) (fun _ _ _ hh h => h.of_heap hh) own started (by kernel_rfl) Tryz.func3
  (ChangeSpec.witness_shaped (enc := enc) (C := Tryz.checked) (os := os) (X := fun w _ => laidMetH Tryz.prog Rows.fnIssuedRow.laid w) false (World.doorLaid Tryz.prog 111 os) #[.slice none 0 0] 8 rfl (World.shaped_of_RefB (by kernel_rfl) (by kernel_rfl)) (by kernel_rfl) (by kernel_rfl) (by kernel_rfl) (door_met os _)) ?_
 intro W base args ds gs before hval0 hW hcnd _ hL _
 have hval : ∀ (j : Nat) t v, Tryz.f3.params[j]? = some t → args[j]? = some v → Value.okWide Tryz.prog W .any base t v := hval0
 have hW' := hW
 obtain ⟨p, q, hA0, hV, rfl, hfz, hnd⟩ := hW
 have hA : DataW.TrodAll enc Tryz.prog W 0 (fun _ => true) true Tryz.f3.params.toList args.toList ds p := hA0
 rw [Tryz.params3] at hA hval
 obtain ⟨v0, vs0, d0, ds0, p0, q0, hargs, rfl, rfl, h0, r0⟩ := trodAll_cons hA
 obtain ⟨rfl, rfl, rfl⟩ := trodAll_nil r0
 obtain rfl : args = #[v0] := by cases args; simp_all
 obtain ⟨gg0, gg1, gg2, gg3, gg4, rfl⟩ := list5 (trodVars_len hV)
 have k0 := h0
 have lt0 : ∀ x ∈ p0, x.block < W.heap.size := by obtain ⟨m, hm⟩ := k0; exact DataW.trod_lt m _ _ _ hm
 obtain ⟨a0, l0, c0, rfl⟩ := okWide_slice Tryz.underlying22 (hval 0 22 v0 rfl rfl)
 obtain ⟨fu0, hf0⟩ := h0
 have by0 := open_bytes hf0
 clear hA0 hval0
 refine (walk a0 l0 c0 W by0 (sens_of hL)).mono fun e W' ⟨he, bel⟩ => ?_
 subst he
 exact ⟨_, rfl, _, _, _, [], _, _, hW', trodAll_mk1 (shut_bool Tryz.underlying4 _), (trodAll_cons_mk (Below.trod laidOut (by kernel_rfl) (of_decide_eq_true (by kernel_rfl)) k0 bel lt0) trodAll_mk0), Below.trodVars laidOut bel (by kernel_rfl) hV, bel.frame _, fun h => by cases h⟩

theorem over : Rows.fnIssuedRow.holds Tryz.pinned (OpenSpec.ofChange Rows.fnIssuedSpec) :=
 OpenClaim.holds_of_wide 3 Tryz.f3 rfl rfl rfl rfl rfl rfl rfl ⟨rfl, rfl, rfl, rfl, rfl⟩ rfl rfl rfl rfl rfl (by kernel_rfl) Tryz.func3 (by kernel_rfl)
  (of_decide_eq_true (by kernel_rfl)) (by unfold Func.isWrapper; first | (rw [if_pos (by decide +kernel)]; kernel_rfl) | (rw [if_neg (by decide +kernel)]; exact ⟨rfl, rfl⟩))
  (fun os started H enc _ => lifted os started H enc)

theorem proved : Rows.FnIssuedCardSaid :=
 Claim7.holds_tied_plain_at .later [] [.handle, .sentinel, .sentinel, .sentinel, .sentinel, .sentinel] true (true, "d847580c0baf8cb44f53c281aef2f508ffd1520f54dc402e0f6ffdcf892a1bba") true
  over (fun _ h => by cases h) (by kernel_rfl) (fun _ h => by cases h) fnIssued_row_tie rfl ⟨rfl, rfl⟩ (by kernel_rfl) rfl
  (fun f fn hf hfn => by
   obtain rfl : f = 3 := Option.some.inj ((show Tryz.prog.funcNamed "loop.example/g00368/laws.FnIssued" = some 3 by kernel_rfl).symm.trans hf) |>.symm
   obtain rfl : fn = Tryz.f3 := (Option.some.inj (Tryz.func3.symm.trans hfn)).symm
   exact ⟨by kernel_rfl, fun j t ht => by
    rw [Tryz.params3] at ht
    have hm : t ∈ [22] := by simpa using Array.mem_of_getElem? ht
    have hall : ([22].all fun u => !Tryz.prog.wantsStandIn u) = true := by kernel_rfl
    exact (show Tryz.prog.wantsStandIn t = false by simpa using List.all_eq_true.1 hall t hm)⟩)
  (by kernel_rfl)

end Go.Proofs.YtccendmoeelniaaGreatDoor.fnIssued
namespace Go.Proofs.YtccendmoeelniaaGreatDoor
theorem fnIssued_holds : Rows.FnIssuedCardSaid := fnIssued.proved

end Go.Proofs.YtccendmoeelniaaGreatDoor
