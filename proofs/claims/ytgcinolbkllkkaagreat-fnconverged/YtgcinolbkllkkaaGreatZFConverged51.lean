/-
  For every slice of bytes the law FnConverged answers true: WorldOk of the program says of a drawn world what the model's says; of a right one any two regions' sets agree, and where their vectors are the same the sets are the same, and what is seen of three traces is; the argument reads as it did. No condition.
-/
import Derived.Test.YtgcinolbkllkkaaGreatZFConverged41
import Derived.Test.YtgcinolbkllkkaaGreatZFConverged50
import Derived.ShutString
import Derived.ChangeOld
import Derived.Lib.SmallJoins
namespace Go.Proofs.YtgcinolbkllkkaaGreat.fnConverged
open Go.ChangeShapes Go.WideShapes Go.ChangeAt Go.RowKit
set_option linter.unusedVariables false
set_option linter.unusedSimpArgs false
set_option maxHeartbeats 64000000 in
set_option maxRecDepth 100000 in
theorem walk (av : Option Addr) (len cap : Nat) (w : World) (h : IsBytes w av len cap) :
  Calls Tryz.prog 3 #[.slice av len cap] w fun e w' => e = .returned (.bool true) ∧ Below w.heap.size w w' := by
 by_cases hl : (1048576 : Int) < (len : Int)
 ·go_enter Tryz.func3, Tryz.ntmps3
  go_wp2_with fail
  refine (big_any _ _ _ _ h.hc h.hm).mono ?_
  rw [decide_eq_true hl]
  rintro e w0 ⟨rfl, rfl⟩
  go_wp2_with fail
  go_ret
  exact ⟨rfl, Below.refl _ _⟩
 go_enter Tryz.func3, Tryz.ntmps3
 go_wp2_with fail
 refine (big_any _ _ _ _ h.hc h.hm).mono ?_
 rw [decide_eq_false (by omega : ¬ (1048576 : Int) < (len : Int))]
 rintro e w0 ⟨rfl, rfl⟩
 go_wp2_with fail
 refine (drawWorldOk_any _ _ _ _ h).mono ?_
 rintro e w1 ⟨⟨now, a, n, c, a2, n2, c2, rs, ms, rfl, hRM⟩, B1⟩
 obtain ⟨R1, M1'⟩ := hRM w1 (gs_refl _ _)
 clear hRM
 have hA : Below w1.heap.size w1 (w1.alloc (.cells #[.int .i64 now, .slice a n c, .slice a2 n2 c2] 27)) := (Below.refl _ _).alloc (Nat.le_refl _) _
 have P := r3_new w1 (.int .i64 now) (.slice a n c) (.slice a2 n2 c2) 27
 go_upto_region 4 with fail
 obtain ⟨w2, hw2⟩ : ∃ W, w1.alloc (.cells #[.int .i64 now, .slice a n c, .slice a2 n2 c2] 27) = W := ⟨_, rfl⟩
 rw [hw2] at hA P ⊢
 clear hw2
 obtain ⟨p, hp⟩ : ∃ z, Hid (w1.heap.size = z) := ⟨_, rfl⟩
 rw [hp.out] at P ⊢
 have R2 := R1.below hA
 have M2 := M1'.below hA
 have B2 := B1.trans (hA.mono B1.size)
 clear R1 M1'
 obtain ⟨d0, d1, d2⟩ := r3_cells P
 have pl := P.lt
 obtain ⟨q, hq⟩ : ∃ q, Hid (M1.wOk now rs ms = q) := ⟨_, rfl⟩
 refine wp_region_held_drew (S := fun w' => Kp w2 w') (by kernel_rfl) ?_ (fun hHeld => ?_)
 ·exact kp_zero _
 refine uZ 0 ?_
 try simp only[pZ,zZ]
 refine uZ 2 ?_
 try simp only[pZ,zZ]
 refine sZ 1 fun K hK => ?_
 go_simp
 (refine (worldOk_impl now _ _ _ rs _ _ _ ms _ (R2.below hHeld.1) (M2.below hHeld.1)).mono ?_; rw [hq.out]; rintro e v1 ⟨rfl, hc1⟩; go_wp2_with fail)
 refine hK.out _ _ ?_ (fun hHeld2 => ?_)
 ·exact kp_step hHeld hc1
 clear hK K hHeld
 have hHeld := hHeld2
 clear hHeld2
 try simp only[pZ,zZ]
 refine sZ 3 fun K hK => ?_
 go_simp
 (refine (worldOk_spec now _ _ _ rs _ _ _ ms _ (R2.below hHeld.1) (M2.below hHeld.1)).mono ?_; rw [hq.out]; rintro e v2 ⟨rfl, hc2⟩; go_wp2_with fail)
 refine hK.out _ _ ?_ (fun hHeld2 => ?_)
 ·exact kp_step hHeld hc2
 clear hK K hHeld
 have hHeld := hHeld2
 clear hHeld2
 try simp only[pZ,zZ]
 refine tZ (i:=4) (v:=.bool false) rfl (.inl ⟨by rfl, ?_⟩) hHeld ?_
 ·(intro w hSw; (try dsimp only at hSw); go_simp; (try simp))
 try simp only[pZ,zZ]
 refine uZ 5 ?_
 try simp only[pZ,zZ]
 refine uZ 6 ?_
 try simp only[pZ,zZ]
 refine sZ 7 fun K hK => ?_
 go_simp
 (refine (worldOk_spec now _ _ _ rs _ _ _ ms _ (R2.below hHeld.1) (M2.below hHeld.1)).mono ?_; rw [hq.out]; rintro e v3 ⟨rfl, hc3⟩; go_wp2_with fail)
 refine hK.out _ _ ?_ (fun hHeld2 => ?_)
 ·exact kp_step hHeld hc3
 clear hK K hHeld
 have hHeld := hHeld2
 clear hHeld2
 try simp only[pZ,zZ]
 refine tZ (i:=8) (v:=.bool (!q)) rfl (.inl ⟨by rfl, ?_⟩) hHeld ?_
 ·(intro w hSw; (try dsimp only at hSw); go_simp; skip)
 try simp only[pZ,zZ]
 refine tZ (i:=9) (v:=.bool (!q)) rfl (.inl ⟨by rfl, ?_⟩) hHeld ?_
 ·(intro w hSw; (try dsimp only at hSw); go_simp; skip)
 try simp only[pZ,zZ]
 refine dZ ?_
 have hb3 := hHeld.1
 clear hHeld
 have P3 := P.below hb3
 have R3' := R2.below hb3
 have M3 := M2.below hb3
 have B3 := B2.trans (hb3.mono B2.size)
 clear P R2 M2 d0 d1 d2 pl
 generalize v3 = w3 at P3 R3' M3 B3 ⊢
 obtain ⟨d0, d1, d2⟩ := r3_cells P3
 have pl := P3.lt
 cases q with
 | false =>
  go_wp2_with fail
  refine wp_region_held_drew (S := fun w' => Kp w3 w') (by kernel_rfl) ?_ (fun hHeld => ?_)
  ·exact kp_zero _
  refine uZ 0 ?_
  try simp only[pZ,zZ]
  refine uZ 2 ?_
  try simp only[pZ,zZ]
  refine sZ 1 fun K hK => ?_
  go_simp
  (refine (worldOk_impl now _ _ _ rs _ _ _ ms _ (R3'.below hHeld.1) (M3.below hHeld.1)).mono ?_; rw [hq.out]; rintro e u1 ⟨rfl, hc1⟩; go_wp2_with fail)
  refine hK.out _ _ ?_ (fun hHeld2 => ?_)
  ·exact kp_step hHeld hc1
  clear hK K hHeld
  have hHeld := hHeld2
  clear hHeld2
  try simp only[pZ,zZ]
  refine sZ 3 fun K hK => ?_
  go_simp
  (refine (worldOk_spec now _ _ _ rs _ _ _ ms _ (R3'.below hHeld.1) (M3.below hHeld.1)).mono ?_; rw [hq.out]; rintro e u2 ⟨rfl, hc2⟩; go_wp2_with fail)
  refine hK.out _ _ ?_ (fun hHeld2 => ?_)
  ·exact kp_step hHeld hc2
  clear hK K hHeld
  have hHeld := hHeld2
  clear hHeld2
  try simp only[pZ,zZ]
  refine tZ (i:=4) (v:=.bool true) rfl (.inl ⟨by rfl, ?_⟩) hHeld ?_
  ·(intro w hSw; (try dsimp only at hSw); go_simp; (try simp))
  try simp only[pZ,zZ]
  refine uZ 5 ?_
  try simp only[pZ,zZ]
  refine dZ ?_
  have B4 := B3.trans (hHeld.1.mono B3.size)
  go_wp2_with fail
  go_ret
  exact ⟨rfl, B4⟩
 | true =>
  have hl1 : Hid (rs.length = n) := R3'.hlen
  obtain ⟨_, hn2', hn5', _, hok0, _, ⟨l, hu⟩, _⟩ := M1.wOk_has hq.out
  have hag : Hid (∀ i k, i < k → k < n → M1.agreeB (M1.rgA rs i).us (M1.rgA rs k).us = true) := fun i k h1 h2 => (M1.uni_all (N := rs.length) (fun i hi => M1.rOk_set (hok0 i hi)) (Nat.le_refl _) hu).2 i k h1 (by rw [hl1.out]; exact h2)
  have hn5 : n ≤ 5 := by have := hl1.out; omega
  have hn2 : 2 ≤ n := by have := hl1.out; omega
  rw [show (!true) = false from rfl]
  clear hn2' hn5' hok0 hu
  rcases R3'.hlies with h0 | ⟨gR, off, rfl, hgl, hcl⟩
  ·omega
  go_wp2_with fail
  go_loopw [4] (fun i wr => ∃ k : Nat, k ≤ n ∧ i = .int .i64 k ∧ Below w3.heap.size w3 wr) (fun i _ => n - (intOf i).toNat)
  case atStart => exact ⟨0, Nat.zero_le _, rfl, Below.refl _ _⟩
  case round =>
   obtain ⟨i, hi, rfl, hB⟩ := hrel
   clear d0 d1 d2 pl
   have P4 := P3.below hB
   obtain ⟨d0, d1, d2⟩ := r3_cells P4
   have pl := P4.lt
   by_cases hlt : i < n
   case neg =>
    have B4 := B3.trans (hB.mono B3.size)
    go_wp2_with fail
    go_ret
    exact ⟨rfl, B4⟩
   obtain ⟨W4, hW4⟩ : ∃ W, W = wr := ⟨_, rfl⟩
   rw [← hW4] at P4 hB d0 d1 d2 pl ⊢
   clear hW4
   have hii : (i : Int) < (n : Int) := by omega
   go_wp2_with fail
   go_loopw [5] (fun j wr => ∃ k : Nat, k ≤ i ∧ j = .int .i64 k ∧ Below w3.heap.size w3 wr) (fun j _ => i - (intOf j).toNat)
   case atStart => exact ⟨0, Nat.zero_le _, rfl, hB⟩
   case round =>
    clear P4 hB d0 d1 d2 pl
    obtain ⟨k, hk, rfl, hB⟩ := hrel
    have P5 := P3.below hB
    obtain ⟨d0, d1, d2⟩ := r3_cells P5
    have pl := P5.lt
    by_cases hlk : k < i
    case neg =>
     go_wp2_with fail
     exact ⟨⟨i + 1, by omega, by go_num, hB⟩, by simp [intOf]; omega⟩
    obtain ⟨W5, hW5⟩ : ∃ W, W = wr := ⟨_, rfl⟩
    rw [← hW5] at P5 hB d0 d1 d2 pl ⊢
    clear hW5
    obtain ⟨va, na, ca, x0, x1, x2, x3, x4, hua⟩ := (hcl i hlt).below hB hgl
    obtain ⟨vb, nb, cb, y0, y1, y2, y3, y4, hub⟩ := (hcl k (by omega)).below hB hgl
    have hgl5 : gR < W5.heap.size := Nat.lt_of_lt_of_le hgl hB.size
    have i0 : (0 : Int) ≤ (i : Int) := by omega
    have k0 : (0 : Int) ≤ (k : Int) := by omega
    have k1 : (k : Int) < (n : Int) := by omega
    have k2 : (k : Int) < (i : Int) := by omega
    have hAg : Hid (M1.agreeB (M1.rgA rs i).us (M1.rgA rs k).us = true) := (by rw [M1.agree_comm]; exact hag.out k i hlk hlt : _ = _)
    obtain ⟨ua, hea⟩ : ∃ u, Hid ((M1.rgA rs i).us = u) := ⟨_, rfl⟩
    obtain ⟨ub, heb⟩ : ∃ u, Hid ((M1.rgA rs k).us = u) := ⟨_, rfl⟩
    rw [hea.out, heb.out] at hAg
    rw [hea.out] at hua
    rw [heb.out] at hub
    clear x0 x1 x2 x3 y0 y1 y2 y3
    have va' : Hid (M1.vectorOf ua = M1.vectorOf ua) := rfl
    go_wp2_with fail
    refine (agree_impl _ _ _ ua _ _ _ ub _ hua hub).mono ?_
    rw [hAg.out]
    rintro e w6 ⟨rfl, hc6⟩
    go_wp2_with fail
    refine (vectorOf_impl _ _ _ ua _ (hua.below hc6)).mono ?_
    rintro e w7 ⟨⟨y, rfl, own7⟩, hc7⟩
    obtain ⟨v7, c7, hy7, mv7⟩ := MV.of_owns own7
    subst hy7
    have hv7 : IsVec w7 v7 (M1.vectorOf ua).length c7 (M1.vectorOf ua) := mv7.vec rfl
    have h67 := hc6.trans (hc7.mono hc6.size)
    go_wp2_with fail
    refine (vectorOf_impl _ _ _ ub _ (hub.below h67)).mono ?_
    rintro e w8 ⟨⟨y, rfl, own8⟩, hc8⟩
    obtain ⟨v8, c8, hy8, mv8⟩ := MV.of_owns own8
    subst hy8
    have hv8 : IsVec w8 v8 (M1.vectorOf ub).length c8 (M1.vectorOf ub) := mv8.vec rfl
    have h68 := h67.trans (hc8.mono h67.size)
    obtain ⟨qv, hqv⟩ : ∃ q, Hid (decide (M1.vectorOf ua = M1.vectorOf ub) = q) := ⟨_, rfl⟩
    go_wp2_with fail
    refine (sameVec_any _ _ _ _ _ _ _ _ _ (hv7.below hc8) hv8).mono ?_
    rw [hqv.out]
    rintro e w9 ⟨rfl, hc9⟩
    have h69 := h68.trans (hc9.mono h68.size)
    have hB9 := hB.trans (h69.mono hB.size)
    clear own7 own8 mv7 mv8 hv7 hv8 hc6 hc7 hc8 hc9 h67 h68
    cases qv with
    | false =>
     go_wp2_with fail
     exact ⟨⟨k + 1, by omega, by go_num, hB9⟩, by simp [intOf]; omega⟩
    | true =>
     have hone : Hid (ua = ub) := M1.set_one hAg.out (of_decide_eq_true hqv.out)
     have hub9 : IsUpds w9 vb nb cb ua := by rw [hone.out]; exact hub.below h69
     have hua9 := hua.below h69
     have hnn : na = nb := hua9.hlen.symm.trans hub9.hlen
     subst hnn
     clear hub hua
     go_wp2_with fail
     go_loopw [8] (fun t wr => ∃ z : Int, 1 ≤ z ∧ z ≤ 4 ∧ t = .int .i64 z ∧ Below w9.heap.size w9 wr) (fun t _ => (4 - intOf t).toNat)
     case atStart => exact ⟨1, by omega, by omega, rfl, Below.refl _ _⟩
     case round =>
      obtain ⟨z, hz1, hz4, rfl, hBt⟩ := hrel
      by_cases hz3 : z ≤ 3
      ·have ut := hua9.below hBt
       have us' := hub9.below hBt
       obtain ⟨F, hF⟩ : ∃ F, Hid (M1.fors ua z = F) := ⟨_, rfl⟩
       obtain ⟨lv, hlv⟩ : ∃ x, Hid (M1.levelOf ua z = x) := ⟨_, rfl⟩
       obtain ⟨kp, hkp⟩ : ∃ x, Hid (M1.keptB ua z = x) := ⟨_, rfl⟩
       have hlvn : (lv != lv) = false := by simp
       have hkpn : (kp != kp) = false := by simp
       go_wp2_with fail
       have f1 := forestOf_impl _ _ _ ua z _ ut
       rw [hF.out] at f1
       refine f1.mono ?_
       clear f1
       rintro e t1 ⟨⟨aF, cF, rfl, F1⟩, hc1⟩
       go_wp2_with fail
       have f2 := forestOf_impl _ _ _ ua z _ (us'.below hc1)
       rw [hF.out] at f2
       refine f2.mono ?_
       clear f2
       rintro e t2 ⟨⟨aG, cG, rfl, F2⟩, hc2⟩
       have h12 := hc1.trans (hc2.mono hc1.size)
       go_wp2_with fail
       refine (sameNodes_self _ _ _ _ _ _ _ _ _ _ _ (F1.below hc2) F2).mono ?_
       rintro e t3 ⟨rfl, hc3⟩
       have h13 := h12.trans (hc3.mono h12.size)
       go_wp2_with fail
       refine (levelOf_impl _ _ _ ua z _ (ut.below h13)).mono ?_
       rw [hlv.out]
       rintro e t4 ⟨rfl, hc4⟩
       have h14 := h13.trans (hc4.mono h13.size)
       go_wp2_with fail
       refine (levelOf_impl _ _ _ ua z _ (us'.below h14)).mono ?_
       rw [hlv.out]
       rintro e t5 ⟨rfl, hc5⟩
       have h15 := h14.trans (hc5.mono h14.size)
       go_wp2_with fail
       refine (kept_impl _ _ _ ua z _ (ut.below h15)).mono ?_
       rw [hkp.out]
       rintro e t6 ⟨rfl, hc6⟩
       have h16 := h15.trans (hc6.mono h15.size)
       go_wp2_with fail
       refine (kept_impl _ _ _ ua z _ (us'.below h16)).mono ?_
       rw [hkp.out]
       rintro e t7 ⟨rfl, hc7⟩
       have h17 := h16.trans (hc7.mono h16.size)
       have hBt' := hBt.trans (h17.mono hBt.size)
       go_wp2_with fail
       exact ⟨⟨z + 1, by omega, by omega, by go_num, hBt'⟩, by simp [intOf]; omega⟩
      ·have ut := hua9.below hBt
       have us' := hub9.below hBt
       go_wp2_with fail
       refine (sameSet_self _ _ _ _ _ ua _ ut us').mono ?_
       rintro e t1 ⟨rfl, hc1⟩
       have hBt' := hBt.trans (hc1.mono hBt.size)
       have hB10 := hB9.trans (hBt'.mono hB9.size)
       go_wp2_with fail
       exact ⟨⟨k + 1, by omega, by go_num, hB10⟩, by simp [intOf]; omega⟩

theorem own : ownKnob Tryz.prog.godebug = none := by kernel_rfl

theorem laidOut : laidOutB Tryz.prog = true := by kernel_rfl

set_option maxRecDepth 100000 in
theorem lifted (os : Os) (started : os.Started) (H : Type) (enc : TypeId × Value → H) :
  ReturnsInHanded {} Tryz.checked os 3 .any (Rows.fnConvergedSpec.pre6 enc Tryz.prog Tryz.f3 Rows.fnConvergedRow.domain false) (Rows.fnConvergedSpec.post enc Tryz.prog Tryz.f3 false true false false) := by
 refine returnsInHanded_of_change (C := Tryz.checked) own started (by kernel_rfl) Tryz.func3
  (ChangeSpec.witness6 (enc := enc) (C := Tryz.checked) false ⟨#[], #[.slice none 0 0], []⟩ 8 (by kernel_rfl) (by kernel_rfl) (by kernel_rfl) (by kernel_rfl)) ?_
 intro W base args ds gs before hval0 hW hcnd _
 have hval : ∀ (j : Nat) t v, Tryz.f3.params[j]? = some t → args[j]? = some v → Value.okWide Tryz.prog W .any base t v := hval0
 have hW' := hW
 obtain ⟨p, q, hA0, hV, rfl, hfz, hnd⟩ := hW
 have hA : DataW.TrodAll enc Tryz.prog W 0 (fun _ => true) true Tryz.f3.params.toList args.toList ds p := hA0
 rw [Tryz.params3] at hA hval
 obtain ⟨v0, vs0, d0, ds0, p0, q0, hargs, rfl, rfl, h0, r0⟩ := trodAll_cons hA
 obtain ⟨rfl, rfl, rfl⟩ := trodAll_nil r0
 obtain rfl : args = #[v0] := by cases args; simp_all
 obtain ⟨rfl, rfl⟩ := trodVars_none hV
 have k0 := h0
 have lt0 : ∀ x ∈ p0, x.block < W.heap.size := by obtain ⟨m, hm⟩ := k0; exact DataW.trod_lt m _ _ _ hm
 obtain ⟨a0, l0, c0, rfl⟩ := okWide_slice Tryz.underlying22 (hval 0 22 v0 rfl rfl)
 obtain ⟨fu0, hf0⟩ := h0
 have by0 := open_bytes hf0
 clear hA0 hval0
 refine (walk a0 l0 c0 W by0).mono fun e W' ⟨he, bel⟩ => ?_
 subst he
 exact ⟨_, rfl, _, _, _, [], _, [], hW', trodAll_mk1 (shut_bool Tryz.underlying4 _), (trodAll_cons_mk (Below.trod laidOut (by kernel_rfl) (of_decide_eq_true (by kernel_rfl)) k0 bel lt0) trodAll_mk0), rfl, bel.frame _, fun h => by cases h⟩

theorem over : Rows.fnConvergedRow.holds Tryz.pinned (OpenSpec.ofChange Rows.fnConvergedSpec) :=
 OpenClaim.holds_of_wide 3 Tryz.f3 rfl rfl rfl rfl rfl rfl rfl ⟨rfl, rfl, rfl, rfl, rfl⟩ rfl rfl rfl rfl rfl (by kernel_rfl) Tryz.func3 (by kernel_rfl)
  (of_decide_eq_true (by kernel_rfl)) (by unfold Func.isWrapper; first | (rw [if_pos (by decide +kernel)]; kernel_rfl) | (rw [if_neg (by decide +kernel)]; exact ⟨rfl, rfl⟩))
  (fun os started H enc _ => lifted os started H enc)

theorem proved : Rows.FnConvergedSaid := over

end Go.Proofs.YtgcinolbkllkkaaGreat.fnConverged
namespace Go.Proofs.YtgcinolbkllkkaaGreat
theorem fnConverged_holds : Rows.FnConvergedSaid := fnConverged.proved

end Go.Proofs.YtgcinolbkllkkaaGreat
