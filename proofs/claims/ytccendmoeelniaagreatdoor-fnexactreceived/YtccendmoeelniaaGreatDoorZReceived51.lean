/-
  For every region, slice of updates and time the law FnExactReceived answers true: Received of the program answers as the model's does, writes into no argument, and its answer is memory of its own, behind another call too. The variables that the card lists are as the program's text lays them (the card's tie). (tools/mkexrec.py)
-/
import Derived.Test.YtccendmoeelniaaGreatDoorZReceived49
import Derived.Test.YtccendmoeelniaaGreatDoorZReceived50
import Derived.Test.YtccendmoeelniaaGreatDoorZReceived34
import Derived.Test.YtccendmoeelniaaGreatDoorZReceived08
import Derived.Test.YtccendmoeelniaaGreatDoorCards
import Derived.Test.YtccendmoeelniaaGreatDoorTie
import Derived.SevenTiedAt
import Derived.Stop.LaidErr
import Derived.LaidMore
import Derived.LaidHandle
import Derived.OpenVars
import Derived.ChangeSame
import Derived.ChangeVars
import Derived.JoinedOf
import Derived.Stop.Joined
import Derived.OpenShut
import Derived.ShutString
import Derived.ChangeOld
import Derived.Lib.SmallJoins
namespace Go.Proofs.YtccendmoeelniaaGreatDoor.exReceived
open Go.ChangeShapes Go.WideShapes Go.ChangeAt Go.RowKit
set_option linter.unusedVariables false
set_option linter.unusedSimpArgs false

theorem mk_row {w w' : World} {av : Option Addr} {n cap lo hi k m : Nat} {f f2 : Nat → Value} (h : MU w av n cap lo hi f) (mk : MkU av w w') (r : RowAt w k m f2) (hk : k < lo ∨ hi ≤ k) : RowAt w' k m f2 := by
  rcases h.2.2 with ⟨_, e⟩ | ⟨g, e, h1, h2, _⟩
  · exact r.below (mk.1 e)
  · exact r.gr (mk.2 g e) (by omega)

set_option maxHeartbeats 40000000 in
set_option maxRecDepth 100000 in
theorem walk (id a b c : Int) (av : Option Addr) (n cn : Nat) (us : List M1.Upd) (bv : Option Addr) (m cm : Nat) (ys : List M1.Upd) (now : Int) (w : World) (h1 : IsUpds w av n cn us) (h2 : IsUpds w bv m cm ys) (hS : ∃ s0 s1 s2 s3 s4, Sens w s0 s1 s2 s3 s4) :
    Calls Tryz.prog 7 #[.agg #[.int .i64 id, .int .i64 a, .int .i64 b, .int .i64 c, .slice av n cn], .slice bv m cm, .int .i64 now] w fun e w' => e = .returned (.bool true) ∧ Below w.heap.size w w' := by
  obtain ⟨s0, s1, s2, s3, s4, S⟩ := hS
  have hm1 := h1.hcap
  have hm2 := h1.hmost
  have hm3 := h2.hcap
  have hm4 := h2.hmost
  have HL1 : Hid (us.length = n) := h1.hlen
  have HL2 : Hid (ys.length = m) := h2.hlen
  have HT1 : Hid (∀ i, i < n → (M1.up us i).s.size ≤ maxLen) := h1.htxt
  have HT2 : Hid (∀ i, i < m → (M1.up ys i).s.size ≤ maxLen) := h2.htxt
  obtain ⟨x, HX⟩ : ∃ x, Hid (M1.rcR ⟨id, a, b, c, us⟩ ys now = x) := ⟨_, rfl⟩
  obtain ⟨kc, HK⟩ : ∃ k, Hid (M1.rcC ⟨id, a, b, c, us⟩ ys now = k) := ⟨_, rfl⟩
  have hxs : M1.setOk x.us = true := by rw [← HX.out]; exact M1.rc_set _ _ _
  have HTX : Hid (∀ i, i < x.us.length → (M1.up x.us i).s.size ≤ maxLen) := set_short hxs
  have hx60 : x.us.length ≤ 60 := M1.setOk_len hxs
  obtain ⟨q, HQ⟩ : ∃ q, Hid (x.us.length = q) := ⟨_, rfl⟩
  rw [HQ.out] at HTX hx60
  have hkk : (kc != kc) = false := by simp
  have B0 : Below w.heap.size w w := Below.refl _ _
  obtain ⟨w0, hw0⟩ : ∃ v, v = w := ⟨_, rfl⟩
  rw [show Calls Tryz.prog 7 #[.agg #[.int .i64 id, .int .i64 a, .int .i64 b, .int .i64 c, .slice av n cn], .slice bv m cm, .int .i64 now] w = Calls Tryz.prog 7 #[.agg #[.int .i64 id, .int .i64 a, .int .i64 b, .int .i64 c, .slice av n cn], .slice bv m cm, .int .i64 now] w0 from by rw [hw0]]
  replace B0 : Below w.heap.size w w0 := by rw [hw0]; exact B0
  clear hw0
  have hs0 := B0.size
  go_enter Tryz.func7, Tryz.ntmps7
  have hb1 : Below w0.heap.size w0 (w0.alloc (.cells #[.int .i64 id, .int .i64 a, .int .i64 b, .int .i64 c, .slice av n cn] 58)) := (Below.refl _ _).alloc (Nat.le_refl _) _
  have A1 := rg_new w0 id a b c av n cn 58
  go_upto_region 1 with fail
  obtain ⟨w1, hw1⟩ : ∃ W, w0.alloc (.cells #[.int .i64 id, .int .i64 a, .int .i64 b, .int .i64 c, .slice av n cn] 58) = W := ⟨_, rfl⟩
  rw [hw1] at hb1 A1 ⊢
  clear hw1
  have B1 := B0.trans (hb1.mono B0.size)
  have hs1 := hb1.size
  obtain ⟨gA, hgA⟩ : ∃ g, Hid (w0.heap.size = g) := ⟨_, rfl⟩
  have hlogA : w0.heap.size ≤ gA := by have := hgA.out; omega
  have hhigA : gA ≤ w0.heap.size := by have := hgA.out; omega
  rw [hgA.out] at A1 ⊢
  have hltgA := A1.lt
  obtain ⟨d0, d1, d2, d3, d4⟩ := A1.cells
  have dl := A1.lt
  go_wp2_with fail
  refine (szRegion_any _ _ _ _ _ _ _ _ _ _ (h1.below B1) (by omega) (by omega)).mono ?_
  rintro e w2 ⟨⟨r, hn, hr0, hr1, rfl⟩ | rfl, hb2⟩
  · have hn' : n ≤ 1048576 := by omega
    have hr2 : ¬ r < 0 := by omega
    have B2 := B1.trans (hb2.mono B1.size)
    have hs2 := hb2.size
    clear d0 d1 d2 d3 d4 dl
    have A2 : RgAt w2 gA id a b c av n cn := A1.below hb2
    clear A1
    go_wp2_with fail
    refine (szUpdateS_any _ _ _ _ _ _ (h2.below B2) hr0 hr1).mono ?_
    rintro e w3 ⟨⟨r', hm, hr0', hr1', rfl⟩ | rfl, hb3⟩
    · have hm' : m ≤ 1048576 := by omega
      have hr2' : ¬ r' < 0 := by omega
      have B3 := B2.trans (hb3.mono B2.size)
      have hs3 := hb3.size
      have A3 : RgAt w3 gA id a b c av n cn := A2.below hb3
      clear A2
      obtain ⟨d0, d1, d2, d3, d4⟩ := A3.cells
      have dl := A3.lt
      go_wp2_with fail
      refine (toRegion_any id a b c _ _ _ _ _ (h1.below B3) hn').mono ?_
      rintro e w4 ⟨gP, rfl, hggP, P4, hb4⟩
      have B4 := B3.trans (hb4.mono B3.size)
      have hs4 := hb4.size
      have hlgP := P4.lt
      have A4 : RgAt w4 gA id a b c av n cn := A3.below hb4
      clear A3
      clear d0 d1 d2 d3 d4 dl
      go_wp2_with fail
      refine (toUpdateS_any _ _ _ _ _ (h2.below B4) hm').mono ?_
      rintro e w5 ⟨gQ, rfl, hggQ, Q5, hb5⟩
      have B5 := B4.trans (hb5.mono B4.size)
      have hs5 := hb5.size
      have hlgQ := Q5.lt
      have A5 : RgAt w5 gA id a b c av n cn := A4.below hb5
      have P5 : RowAt w5 gP (n * 13) (ucell us) := P4.below hb5
      clear A4 P4
      go_wp2_with fail
      have js := received_spec ⟨id, a, b, c, us⟩ _ _ _ _ _ _ ys now _ (isUpds_of_row HL1.out (Nat.le_refl _) (by unfold maxLen; omega) HT1.out P5) (isUpds_of_row HL2.out (Nat.le_refl _) (by unfold maxLen; omega) HT2.out Q5)
      unfold RcS at js
      unfold RgD at js
      rw [HX.out, HK.out, HQ.out] at js
      refine js.mono ?_
      clear js
      rintro e w6 ⟨⟨_, rfl, aW, cW, rfl, MW6⟩, hb6⟩
      have B6 := B5.trans (hb6.mono B5.size)
      have hs6 := hb6.size
      have loMW : w5.heap.size ≤ w6.heap.size := hs6
      have A6 : RgAt w6 gA id a b c av n cn := A5.below hb6
      have P6 : RowAt w6 gP (n * 13) (ucell us) := P5.below hb6
      have Q6 : RowAt w6 gQ (m * 13) (ucell ys) := Q5.below hb6
      clear A5 P5 Q5
      clear P6 Q6
      have hb7 : Below w6.heap.size w6 (w6.alloc (.cells #[.int .i64 x.id, .int .i64 x.a, .int .i64 x.b, .int .i64 x.c, .slice aW q cW] 28)) := (Below.refl _ _).alloc (Nat.le_refl _) _
      have W7 := rg_new w6 x.id x.a x.b x.c aW q cW 28
      go_upto_region 9 with fail
      obtain ⟨w7, hw7⟩ : ∃ W, w6.alloc (.cells #[.int .i64 x.id, .int .i64 x.a, .int .i64 x.b, .int .i64 x.c, .slice aW q cW] 28) = W := ⟨_, rfl⟩
      rw [hw7] at hb7 W7 ⊢
      clear hw7
      have B7 := B6.trans (hb7.mono B6.size)
      have hs7 := hb7.size
      obtain ⟨gW, hgW⟩ : ∃ g, Hid (w6.heap.size = g) := ⟨_, rfl⟩
      have hlogW : w6.heap.size ≤ gW := by have := hgW.out; omega
      have hhigW : gW ≤ w6.heap.size := by have := hgW.out; omega
      rw [hgW.out] at W7 ⊢
      have hltgW := W7.lt
      have A7 : RgAt w7 gA id a b c av n cn := A6.below hb7
      have MW7 : MU w7 aW q cW w5.heap.size w6.heap.size (ucell x.us) := MW6.below hb7
      clear A6 MW6
      obtain ⟨d0, d1, d2, d3, d4⟩ := A7.cells
      have dl := A7.lt
      go_wp2_with fail
      refine (toRegion_any id a b c _ _ _ _ _ (h1.below B7) hn').mono ?_
      rintro e w8 ⟨gX, rfl, hggX, X8, hb8⟩
      have B8 := B7.trans (hb8.mono B7.size)
      have hs8 := hb8.size
      have hlgX := X8.lt
      have A8 : RgAt w8 gA id a b c av n cn := A7.below hb8
      have MW8 : MU w8 aW q cW w5.heap.size w6.heap.size (ucell x.us) := MW7.below hb8
      have W8 : RgAt w8 gW x.id x.a x.b x.c aW q cW := W7.below hb8
      clear A7 MW7 W7
      clear d0 d1 d2 d3 d4 dl
      have hb9 : Below w8.heap.size w8 (w8.alloc (.cells #[.int .i64 id, .int .i64 a, .int .i64 b, .int .i64 c, .slice (some ⟨gX, 0, none⟩) n n] 28)) := (Below.refl _ _).alloc (Nat.le_refl _) _
      have Y9 := rg_new w8 id a b c (some ⟨gX, 0, none⟩) n n 28
      go_upto_region 10 with fail
      obtain ⟨w9, hw9⟩ : ∃ W, w8.alloc (.cells #[.int .i64 id, .int .i64 a, .int .i64 b, .int .i64 c, .slice (some ⟨gX, 0, none⟩) n n] 28) = W := ⟨_, rfl⟩
      rw [hw9] at hb9 Y9 ⊢
      clear hw9
      have B9 := B8.trans (hb9.mono B8.size)
      have hs9 := hb9.size
      obtain ⟨gY, hgY⟩ : ∃ g, Hid (w8.heap.size = g) := ⟨_, rfl⟩
      have hlogY : w8.heap.size ≤ gY := by have := hgY.out; omega
      have hhigY : gY ≤ w8.heap.size := by have := hgY.out; omega
      rw [hgY.out] at Y9 ⊢
      have hltgY := Y9.lt
      have A9 : RgAt w9 gA id a b c av n cn := A8.below hb9
      have MW9 : MU w9 aW q cW w5.heap.size w6.heap.size (ucell x.us) := MW8.below hb9
      have W9 : RgAt w9 gW x.id x.a x.b x.c aW q cW := W8.below hb9
      have X9 : RowAt w9 gX (n * 13) (ucell us) := X8.below hb9
      clear A8 MW8 W8 X8
      go_wp2_with fail
      refine (toUpdateS_any _ _ _ _ _ (h2.below B9) hm').mono ?_
      rintro e w10 ⟨gV, rfl, hggV, V10, hb10⟩
      have B10 := B9.trans (hb10.mono B9.size)
      have hs10 := hb10.size
      have hlgV := V10.lt
      have A10 : RgAt w10 gA id a b c av n cn := A9.below hb10
      have MW10 : MU w10 aW q cW w5.heap.size w6.heap.size (ucell x.us) := MW9.below hb10
      have W10 : RgAt w10 gW x.id x.a x.b x.c aW q cW := W9.below hb10
      have X10 : RowAt w10 gX (n * 13) (ucell us) := X9.below hb10
      have Y10 : RgAt w10 gY id a b c (some ⟨gX, 0, none⟩) n n := Y9.below hb10
      clear A9 MW9 W9 X9 Y9
      obtain ⟨d0, d1, d2, d3, d4⟩ := Y10.cells
      have dl := Y10.lt
      go_wp2_with fail
      have js := received_impl s0 s1 s2 s3 s4 ⟨id, a, b, c, us⟩ _ _ _ _ _ _ ys now _ (S.below B10) (isUpds_of_row HL1.out (Nat.le_refl _) (by unfold maxLen; omega) HT1.out X10) (isUpds_of_row HL2.out (Nat.le_refl _) (by unfold maxLen; omega) HT2.out V10)
      unfold RgD at js
      rw [HX.out, HK.out, HQ.out] at js
      refine js.mono ?_
      clear js
      rintro e w11 ⟨⟨_, rfl, aG, cG, rfl, MG11⟩, hb11⟩
      have B11 := B10.trans (hb11.mono B10.size)
      have hs11 := hb11.size
      have loMG : w10.heap.size ≤ w11.heap.size := hs11
      have A11 : RgAt w11 gA id a b c av n cn := A10.below hb11
      have MW11 : MU w11 aW q cW w5.heap.size w6.heap.size (ucell x.us) := MW10.below hb11
      have W11 : RgAt w11 gW x.id x.a x.b x.c aW q cW := W10.below hb11
      have X11 : RowAt w11 gX (n * 13) (ucell us) := X10.below hb11
      have Y11 : RgAt w11 gY id a b c (some ⟨gX, 0, none⟩) n n := Y10.below hb11
      have V11 : RowAt w11 gV (m * 13) (ucell ys) := V10.below hb11
      clear A10 MW10 W10 X10 Y10 V10
      clear d0 d1 d2 d3 d4 dl
      have hb12 : Below w11.heap.size w11 (w11.alloc (.cells #[.int .i64 x.id, .int .i64 x.a, .int .i64 x.b, .int .i64 x.c, .slice aG q cG] 28)) := (Below.refl _ _).alloc (Nat.le_refl _) _
      have G12 := rg_new w11 x.id x.a x.b x.c aG q cG 28
      go_upto_region 12 with fail
      obtain ⟨w12, hw12⟩ : ∃ W, w11.alloc (.cells #[.int .i64 x.id, .int .i64 x.a, .int .i64 x.b, .int .i64 x.c, .slice aG q cG] 28) = W := ⟨_, rfl⟩
      rw [hw12] at hb12 G12 ⊢
      clear hw12
      have B12 := B11.trans (hb12.mono B11.size)
      have hs12 := hb12.size
      obtain ⟨gG, hgG⟩ : ∃ g, Hid (w11.heap.size = g) := ⟨_, rfl⟩
      have hlogG : w11.heap.size ≤ gG := by have := hgG.out; omega
      have hhigG : gG ≤ w11.heap.size := by have := hgG.out; omega
      rw [hgG.out] at G12 ⊢
      have hltgG := G12.lt
      have A12 : RgAt w12 gA id a b c av n cn := A11.below hb12
      have MW12 : MU w12 aW q cW w5.heap.size w6.heap.size (ucell x.us) := MW11.below hb12
      have W12 : RgAt w12 gW x.id x.a x.b x.c aW q cW := W11.below hb12
      have X12 : RowAt w12 gX (n * 13) (ucell us) := X11.below hb12
      have Y12 : RgAt w12 gY id a b c (some ⟨gX, 0, none⟩) n n := Y11.below hb12
      have V12 : RowAt w12 gV (m * 13) (ucell ys) := V11.below hb12
      have MG12 : MU w12 aG q cG w10.heap.size w11.heap.size (ucell x.us) := MG11.below hb12
      clear A11 MW11 W11 X11 Y11 V11 MG11
      obtain ⟨d0, d1, d2, d3, d4⟩ := G12.cells
      have dl := G12.lt
      obtain ⟨e0, e1, e2, e3, e4⟩ := W12.cells
      have el := W12.lt
      go_wp2_with fail
      refine (eqRegion_self x.id x.a x.b x.c _ _ _ _ _ _ _ (MG12.upds HQ.out HTX.out) (MW12.upds HQ.out HTX.out)).mono ?_
      rintro e w13 ⟨rfl, hb13⟩
      have B13 := B12.trans (hb13.mono B12.size)
      have hs13 := hb13.size
      have A13 : RgAt w13 gA id a b c av n cn := A12.below hb13
      have MW13 : MU w13 aW q cW w5.heap.size w6.heap.size (ucell x.us) := MW12.below hb13
      have W13 : RgAt w13 gW x.id x.a x.b x.c aW q cW := W12.below hb13
      have X13 : RowAt w13 gX (n * 13) (ucell us) := X12.below hb13
      have Y13 : RgAt w13 gY id a b c (some ⟨gX, 0, none⟩) n n := Y12.below hb13
      have V13 : RowAt w13 gV (m * 13) (ucell ys) := V12.below hb13
      have MG13 : MU w13 aG q cG w10.heap.size w11.heap.size (ucell x.us) := MG12.below hb13
      have G13 : RgAt w13 gG x.id x.a x.b x.c aG q cG := G12.below hb13
      clear A12 MW12 W12 X12 Y12 V12 MG12 G12
      clear d0 d1 d2 d3 d4 dl
      clear e0 e1 e2 e3 e4 el
      obtain ⟨d0, d1, d2, d3, d4⟩ := Y13.cells
      have dl := Y13.lt
      obtain ⟨e0, e1, e2, e3, e4⟩ := A13.cells
      have el := A13.lt
      go_wp2_with fail
      refine wp_region_held_drew (S := fun w' => Kp w13 w') (by kernel_rfl) ?_ (fun hHeld => ?_)
      · exact kp_zero _
      refine wpAnyH_take (i := 0) (v := ?_) rfl (by kernel_rfl) (by kernel_rfl) (by kernel_rfl) (fun _ _ _ h => h) (Or.inl ⟨by rfl, ?_⟩) hHeld ?_
      rotate_left
      · (intro w hSw; (try dsimp only at hSw); go_simp; try (with_reducible rfl))
      (try simp only [Act.put, aZ, bZ, cZ, dZ, eZ, fZ])
      refine wpAnyH_take (i := 1) (v := ?_) rfl (by kernel_rfl) (by kernel_rfl) (by kernel_rfl) (fun _ _ _ h => h) (Or.inl ⟨by rfl, ?_⟩) hHeld ?_
      rotate_left
      · (intro w hSw; (try dsimp only at hSw); go_simp; try (with_reducible rfl))
      (try simp only [Act.put, aZ, bZ, cZ, dZ, eZ, fZ])
      refine wpAnyH_ready (rs := [2]) (by kernel_rfl) (by simp) ?_
      refine AllReadyH.cons (o := _) rfl (fun K hK => ?_) AllReadyH.nil
      go_simp
      (refine (toRegion_any id a b c _ _ _ _ _ ((h1.below B13).below hHeld.1) hn').mono ?_; rintro e wa ⟨gT, rfl, hgT, T1, hba⟩; go_wp2_with fail)
      refine hK.out _ _ ?_ (fun hHeld2 => ?_)
      · exact kp_step hHeld hba
      clear hK K hHeld
      have hHeld := hHeld2
      clear hHeld2
      (try simp only [Act.put, aZ, bZ, cZ, dZ, eZ, fZ])
      have hKa := hHeld.1
      have Xa := X13.below hKa
      refine wpAnyH_ready (rs := [3]) (by kernel_rfl) (by simp) ?_
      refine AllReadyH.cons (o := _) rfl (fun K hK => ?_) AllReadyH.nil
      go_simp
      (refine (eqRegion_self id a b c _ _ _ _ _ _ _ (isUpds_of_row HL1.out (Nat.le_refl _) (by unfold maxLen; omega) HT1.out Xa) (isUpds_of_row HL1.out (Nat.le_refl _) (by unfold maxLen; omega) HT1.out T1)).mono ?_; rintro e wb ⟨rfl, hbb⟩; go_wp2_with fail)
      refine hK.out _ _ ?_ (fun hHeld2 => ?_)
      · exact kp_step hHeld hbb
      clear hK K hHeld
      have hHeld := hHeld2
      clear hHeld2
      (try simp only [Act.put, aZ, bZ, cZ, dZ, eZ, fZ])
      refine wpAnyH_take (i := 4) (v := ?_) rfl (by kernel_rfl) (by kernel_rfl) (by kernel_rfl) (fun _ _ _ h => h) (Or.inl ⟨by rfl, ?_⟩) hHeld ?_
      rotate_left
      · (intro w hSw; (try dsimp only at hSw); go_simp; try (with_reducible rfl))
      (try simp only [Act.put, aZ, bZ, cZ, dZ, eZ, fZ])
      refine wpAnyH_done (by kernel_rfl) ?_ _
      clear d0 d1 d2 d3 d4 dl
      clear e0 e1 e2 e3 e4 el
      have hb14 := hHeld.1
      clear hHeld hKa Xa
      obtain ⟨w14, hw14⟩ : ∃ v, v = wb := ⟨_, rfl⟩
      rw [← hw14] at hb14 ⊢
      clear hw14
      have B14 := B13.trans (hb14.mono B13.size)
      have hs14 := hb14.size
      have A14 : RgAt w14 gA id a b c av n cn := A13.below hb14
      have MW14 : MU w14 aW q cW w5.heap.size w6.heap.size (ucell x.us) := MW13.below hb14
      have W14 : RgAt w14 gW x.id x.a x.b x.c aW q cW := W13.below hb14
      have X14 : RowAt w14 gX (n * 13) (ucell us) := X13.below hb14
      have Y14 : RgAt w14 gY id a b c (some ⟨gX, 0, none⟩) n n := Y13.below hb14
      have V14 : RowAt w14 gV (m * 13) (ucell ys) := V13.below hb14
      have MG14 : MU w14 aG q cG w10.heap.size w11.heap.size (ucell x.us) := MG13.below hb14
      have G14 : RgAt w14 gG x.id x.a x.b x.c aG q cG := G13.below hb14
      clear A13 MW13 W13 X13 Y13 V13 MG13 G13
      go_wp2_with fail
      refine (toUpdateS_any _ _ _ _ _ (h2.below B14) hm').mono ?_
      rintro e w15 ⟨gU, rfl, hggU, U15, hb15⟩
      have B15 := B14.trans (hb15.mono B14.size)
      have hs15 := hb15.size
      have hlgU := U15.lt
      have A15 : RgAt w15 gA id a b c av n cn := A14.below hb15
      have MW15 : MU w15 aW q cW w5.heap.size w6.heap.size (ucell x.us) := MW14.below hb15
      have W15 : RgAt w15 gW x.id x.a x.b x.c aW q cW := W14.below hb15
      have X15 : RowAt w15 gX (n * 13) (ucell us) := X14.below hb15
      have Y15 : RgAt w15 gY id a b c (some ⟨gX, 0, none⟩) n n := Y14.below hb15
      have V15 : RowAt w15 gV (m * 13) (ucell ys) := V14.below hb15
      have MG15 : MU w15 aG q cG w10.heap.size w11.heap.size (ucell x.us) := MG14.below hb15
      have G15 : RgAt w15 gG x.id x.a x.b x.c aG q cG := G14.below hb15
      clear A14 MW14 W14 X14 Y14 V14 MG14 G14
      go_wp2_with fail
      refine (eqUpdateS_self _ _ _ _ _ _ _ (isUpds_of_row HL2.out (Nat.le_refl _) (by unfold maxLen; omega) HT2.out V15) (isUpds_of_row HL2.out (Nat.le_refl _) (by unfold maxLen; omega) HT2.out U15)).mono ?_
      rintro e w16 ⟨rfl, hb16⟩
      have B16 := B15.trans (hb16.mono B15.size)
      have hs16 := hb16.size
      have A16 : RgAt w16 gA id a b c av n cn := A15.below hb16
      have MW16 : MU w16 aW q cW w5.heap.size w6.heap.size (ucell x.us) := MW15.below hb16
      have W16 : RgAt w16 gW x.id x.a x.b x.c aW q cW := W15.below hb16
      have X16 : RowAt w16 gX (n * 13) (ucell us) := X15.below hb16
      have Y16 : RgAt w16 gY id a b c (some ⟨gX, 0, none⟩) n n := Y15.below hb16
      have V16 : RowAt w16 gV (m * 13) (ucell ys) := V15.below hb16
      have MG16 : MU w16 aG q cG w10.heap.size w11.heap.size (ucell x.us) := MG15.below hb16
      have G16 : RgAt w16 gG x.id x.a x.b x.c aG q cG := G15.below hb16
      have U16 : RowAt w16 gU (m * 13) (ucell ys) := U15.below hb16
      clear A15 MW15 W15 X15 Y15 V15 MG15 G15 U15
      clear U16
      obtain ⟨d0, d1, d2, d3, d4⟩ := Y16.cells
      have dl := Y16.lt
      go_wp2_with fail
      refine (markRegion_some id a b c gX n n _ 1 _ X16 (Nat.le_refl _) (by unfold maxLen; omega) hn' (by omega) (by omega)).mono ?_
      rintro e w17 ⟨rfl, hb17⟩
      have B17 := B16.trans (gr_to hb17 B16.size (by omega))
      have hs17 := hb17.size
      clear d0 d1 d2 d3 d4 dl
      clear X16 Y16
      have A17 : RgAt w17 gA id a b c av n cn := A16.gr hb17 (by omega)
      have MW17 : MU w17 aW q cW w5.heap.size w6.heap.size (ucell x.us) := MW16.off hb17 (by omega)
      have W17 : RgAt w17 gW x.id x.a x.b x.c aW q cW := W16.gr hb17 (by omega)
      have V17 : RowAt w17 gV (m * 13) (ucell ys) := V16.gr hb17 (by omega)
      have MG17 : MU w17 aG q cG w10.heap.size w11.heap.size (ucell x.us) := MG16.off hb17 (by omega)
      have G17 : RgAt w17 gG x.id x.a x.b x.c aG q cG := G16.gr hb17 (by omega)
      clear A16 MW16 W16 V16 MG16 G16
      have e1 : (0 : Int) ≤ 1 + 13 * (n : Int) := by omega
      have e2 : 1 + 13 * (n : Int) ≤ 100000000 := by omega
      go_wp2_with fail
      refine (markU_some _ _ _ _ (1 + 13 * (n : Int)) _ V17 (Nat.le_refl _) (by unfold maxLen; omega) hm' (by omega) (by omega)).mono ?_
      rintro e w18 ⟨rfl, _, hb18⟩
      have B18 := B17.trans (gr_to hb18 B17.size (by omega))
      have hs18 := hb18.size
      clear V17
      have A18 : RgAt w18 gA id a b c av n cn := A17.gr hb18 (by omega)
      have MW18 : MU w18 aW q cW w5.heap.size w6.heap.size (ucell x.us) := MW17.off hb18 (by omega)
      have W18 : RgAt w18 gW x.id x.a x.b x.c aW q cW := W17.gr hb18 (by omega)
      have MG18 : MU w18 aG q cG w10.heap.size w11.heap.size (ucell x.us) := MG17.off hb18 (by omega)
      have G18 : RgAt w18 gG x.id x.a x.b x.c aG q cG := G17.gr hb18 (by omega)
      clear A17 MW17 W17 MG17 G17
      have e3 : ¬ (1 + 13 * (n : Int) + 13 * (m : Int)) < 0 := by omega
      obtain ⟨d0, d1, d2, d3, d4⟩ := G18.cells
      have dl := G18.lt
      obtain ⟨e0, e1, e2, e3, e4⟩ := W18.cells
      have el := W18.lt
      go_wp2_with fail
      refine (eqRegion_self x.id x.a x.b x.c _ _ _ _ _ _ _ (MG18.upds HQ.out HTX.out) (MW18.upds HQ.out HTX.out)).mono ?_
      rintro e w19 ⟨rfl, hb19⟩
      have B19 := B18.trans (hb19.mono B18.size)
      have hs19 := hb19.size
      have A19 : RgAt w19 gA id a b c av n cn := A18.below hb19
      have MW19 : MU w19 aW q cW w5.heap.size w6.heap.size (ucell x.us) := MW18.below hb19
      have W19 : RgAt w19 gW x.id x.a x.b x.c aW q cW := W18.below hb19
      have MG19 : MU w19 aG q cG w10.heap.size w11.heap.size (ucell x.us) := MG18.below hb19
      have G19 : RgAt w19 gG x.id x.a x.b x.c aG q cG := G18.below hb19
      clear A18 MW18 W18 MG18 G18
      clear d0 d1 d2 d3 d4 dl
      clear e0 e1 e2 e3 e4 el
      obtain ⟨d0, d1, d2, d3, d4⟩ := G19.cells
      have dl := G19.lt
      go_wp2_with fail
      refine (markRegion_any x.id x.a x.b x.c _ _ _ _ _ x.us 1 _ MG19 (by omega) (by omega) (by omega)).mono ?_
      rintro e w20 ⟨rfl, MH20, mk⟩
      have W20 : RgAt w20 gW x.id x.a x.b x.c aW q cW := mk_row MG19 mk W19 (by omega)
      have G20 : RgAt w20 gG x.id x.a x.b x.c aG q cG := mk_row MG19 mk G19 (by omega)
      have A20 : RgAt w20 gA id a b c av n cn := mk_row MG19 mk A19 (by omega)
      have MW20 := MW19.mk MG19 mk (by omega)
      have B20 := B19.trans (MkU.below MG19 mk B19.size (by omega))
      have hs20 := (MkU.below (B := w.heap.size) MG19 mk B19.size (by omega)).size
      clear d0 d1 d2 d3 d4 dl
      clear W19 G19 A19 MW19 MG19 mk
      have e4 : ¬ (1 + 13 * (q : Int)) < 0 := by omega
      obtain ⟨d0, d1, d2, d3, d4⟩ := G20.cells
      have dl := G20.lt
      go_wp2_with fail
      refine (heldRegion_any x.id x.a x.b x.c _ _ _ _ _ 1 _ MH20 (by omega) (by omega) (by omega)).mono ?_
      rintro e w21 ⟨rfl, hb21⟩
      have B21 := B20.trans (hb21.mono B20.size)
      have hs21 := hb21.size
      have A21 : RgAt w21 gA id a b c av n cn := A20.below hb21
      have MW21 : MU w21 aW q cW w5.heap.size w6.heap.size (ucell x.us) := MW20.below hb21
      have W21 : RgAt w21 gW x.id x.a x.b x.c aW q cW := W20.below hb21
      have G21 : RgAt w21 gG x.id x.a x.b x.c aG q cG := G20.below hb21
      have MH21 : MU w21 aG q cG w10.heap.size w11.heap.size (mcell 1) := MH20.below hb21
      clear A20 MW20 W20 G20 MH20
      clear d0 d1 d2 d3 d4 dl
      obtain ⟨d0, d1, d2, d3, d4⟩ := A21.cells
      have dl := A21.lt
      go_wp2_with fail
      refine (toRegion_any id a b c _ _ _ _ _ (h1.below B21) hn').mono ?_
      rintro e w22 ⟨gP3, rfl, hggP3, P22, hb22⟩
      have B22 := B21.trans (hb22.mono B21.size)
      have hs22 := hb22.size
      have hlgP3 := P22.lt
      have A22 : RgAt w22 gA id a b c av n cn := A21.below hb22
      have MW22 : MU w22 aW q cW w5.heap.size w6.heap.size (ucell x.us) := MW21.below hb22
      have W22 : RgAt w22 gW x.id x.a x.b x.c aW q cW := W21.below hb22
      have G22 : RgAt w22 gG x.id x.a x.b x.c aG q cG := G21.below hb22
      have MH22 : MU w22 aG q cG w10.heap.size w11.heap.size (mcell 1) := MH21.below hb22
      clear A21 MW21 W21 G21 MH21
      clear d0 d1 d2 d3 d4 dl
      go_wp2_with fail
      refine (toUpdateS_any _ _ _ _ _ (h2.below B22) hm').mono ?_
      rintro e w23 ⟨gQ3, rfl, hggQ3, Q23, hb23⟩
      have B23 := B22.trans (hb23.mono B22.size)
      have hs23 := hb23.size
      have hlgQ3 := Q23.lt
      have A23 : RgAt w23 gA id a b c av n cn := A22.below hb23
      have MW23 : MU w23 aW q cW w5.heap.size w6.heap.size (ucell x.us) := MW22.below hb23
      have W23 : RgAt w23 gW x.id x.a x.b x.c aW q cW := W22.below hb23
      have G23 : RgAt w23 gG x.id x.a x.b x.c aG q cG := G22.below hb23
      have MH23 : MU w23 aG q cG w10.heap.size w11.heap.size (mcell 1) := MH22.below hb23
      have P23 : RowAt w23 gP3 (n * 13) (ucell us) := P22.below hb23
      clear A22 MW22 W22 G22 MH22 P22
      go_wp2_with fail
      have js := received_impl s0 s1 s2 s3 s4 ⟨id, a, b, c, us⟩ _ _ _ _ _ _ ys now _ (S.below B23) (isUpds_of_row HL1.out (Nat.le_refl _) (by unfold maxLen; omega) HT1.out P23) (isUpds_of_row HL2.out (Nat.le_refl _) (by unfold maxLen; omega) HT2.out Q23)
      unfold RgD at js
      rw [HX.out, HK.out, HQ.out] at js
      refine js.mono ?_
      clear js
      rintro e w24 ⟨⟨_, rfl, aI, cI, rfl, MI24⟩, hb24⟩
      have B24 := B23.trans (hb24.mono B23.size)
      have hs24 := hb24.size
      have loMI : w23.heap.size ≤ w24.heap.size := hs24
      have A24 : RgAt w24 gA id a b c av n cn := A23.below hb24
      have MW24 : MU w24 aW q cW w5.heap.size w6.heap.size (ucell x.us) := MW23.below hb24
      have W24 : RgAt w24 gW x.id x.a x.b x.c aW q cW := W23.below hb24
      have G24 : RgAt w24 gG x.id x.a x.b x.c aG q cG := G23.below hb24
      have MH24 : MU w24 aG q cG w10.heap.size w11.heap.size (mcell 1) := MH23.below hb24
      have P24 : RowAt w24 gP3 (n * 13) (ucell us) := P23.below hb24
      have Q24 : RowAt w24 gQ3 (m * 13) (ucell ys) := Q23.below hb24
      clear A23 MW23 W23 G23 MH23 P23 Q23
      clear P24 Q24
      have hb25 : Below w24.heap.size w24 (w24.alloc (.cells #[.int .i64 x.id, .int .i64 x.a, .int .i64 x.b, .int .i64 x.c, .slice aI q cI] 28)) := (Below.refl _ _).alloc (Nat.le_refl _) _
      have H25 := rg_new w24 x.id x.a x.b x.c aI q cI 28
      go_upto_region 32 with fail
      obtain ⟨w25, hw25⟩ : ∃ W, w24.alloc (.cells #[.int .i64 x.id, .int .i64 x.a, .int .i64 x.b, .int .i64 x.c, .slice aI q cI] 28) = W := ⟨_, rfl⟩
      rw [hw25] at hb25 H25 ⊢
      clear hw25
      have B25 := B24.trans (hb25.mono B24.size)
      have hs25 := hb25.size
      obtain ⟨gH, hgH⟩ : ∃ g, Hid (w24.heap.size = g) := ⟨_, rfl⟩
      have hlogH : w24.heap.size ≤ gH := by have := hgH.out; omega
      have hhigH : gH ≤ w24.heap.size := by have := hgH.out; omega
      rw [hgH.out] at H25 ⊢
      have hltgH := H25.lt
      have A25 : RgAt w25 gA id a b c av n cn := A24.below hb25
      have MW25 : MU w25 aW q cW w5.heap.size w6.heap.size (ucell x.us) := MW24.below hb25
      have W25 : RgAt w25 gW x.id x.a x.b x.c aW q cW := W24.below hb25
      have G25 : RgAt w25 gG x.id x.a x.b x.c aG q cG := G24.below hb25
      have MH25 : MU w25 aG q cG w10.heap.size w11.heap.size (mcell 1) := MH24.below hb25
      have MI25 : MU w25 aI q cI w23.heap.size w24.heap.size (ucell x.us) := MI24.below hb25
      clear A24 MW24 W24 G24 MH24 MI24
      obtain ⟨d0, d1, d2, d3, d4⟩ := H25.cells
      have dl := H25.lt
      obtain ⟨e0, e1, e2, e3, e4⟩ := W25.cells
      have el := W25.lt
      go_wp2_with fail
      refine (eqRegion_self x.id x.a x.b x.c _ _ _ _ _ _ _ (MI25.upds HQ.out HTX.out) (MW25.upds HQ.out HTX.out)).mono ?_
      rintro e w26 ⟨rfl, hb26⟩
      have B26 := B25.trans (hb26.mono B25.size)
      have hs26 := hb26.size
      have A26 : RgAt w26 gA id a b c av n cn := A25.below hb26
      have MW26 : MU w26 aW q cW w5.heap.size w6.heap.size (ucell x.us) := MW25.below hb26
      have W26 : RgAt w26 gW x.id x.a x.b x.c aW q cW := W25.below hb26
      have G26 : RgAt w26 gG x.id x.a x.b x.c aG q cG := G25.below hb26
      have MH26 : MU w26 aG q cG w10.heap.size w11.heap.size (mcell 1) := MH25.below hb26
      have MI26 : MU w26 aI q cI w23.heap.size w24.heap.size (ucell x.us) := MI25.below hb26
      have H26 : RgAt w26 gH x.id x.a x.b x.c aI q cI := H25.below hb26
      clear A25 MW25 W25 G25 MH25 MI25 H25
      clear d0 d1 d2 d3 d4 dl
      clear e0 e1 e2 e3 e4 el
      obtain ⟨d0, d1, d2, d3, d4⟩ := G26.cells
      have dl := G26.lt
      go_wp2_with fail
      refine (heldRegion_any x.id x.a x.b x.c _ _ _ _ _ 1 _ MH26 (by omega) (by omega) (by omega)).mono ?_
      rintro e w27 ⟨rfl, hb27⟩
      have B27 := B26.trans (hb27.mono B26.size)
      have hs27 := hb27.size
      have A27 : RgAt w27 gA id a b c av n cn := A26.below hb27
      have MW27 : MU w27 aW q cW w5.heap.size w6.heap.size (ucell x.us) := MW26.below hb27
      have W27 : RgAt w27 gW x.id x.a x.b x.c aW q cW := W26.below hb27
      have G27 : RgAt w27 gG x.id x.a x.b x.c aG q cG := G26.below hb27
      have MH27 : MU w27 aG q cG w10.heap.size w11.heap.size (mcell 1) := MH26.below hb27
      have MI27 : MU w27 aI q cI w23.heap.size w24.heap.size (ucell x.us) := MI26.below hb27
      have H27 : RgAt w27 gH x.id x.a x.b x.c aI q cI := H26.below hb27
      clear A26 MW26 W26 G26 MH26 MI26 H26
      clear d0 d1 d2 d3 d4 dl
      go_wp2_with fail
      go_ret
      exact ⟨rfl, B27⟩
    · have Bz := B2.trans (hb3.mono B2.size)
      go_wp2_with fail
      go_ret
      exact ⟨rfl, Bz⟩
  · have Bz := B1.trans (hb2.mono B1.size)
    go_wp2_with fail
    go_ret
    exact ⟨rfl, Bz⟩

theorem own : ownKnob Tryz.prog.godebug = none := by kernel_rfl
theorem laidOut : laidOutB Tryz.prog = true := by kernel_rfl
set_option maxRecDepth 100000 in
theorem door_met (os : Os) (args : Array Value) : laidMetH Tryz.prog Rows.fnExactReceivedRow.laid ((World.doorLaid Tryz.prog 111 os).forCall (fun _ _ => 0) ⟨#[], args, []⟩).memory :=
  laidMetH_of_parts3 (fuel := 8) (laidMet_of_run' 8 (by kernel_rfl) (by kernel_rfl)) (by kernel_rfl) (by kernel_rfl)

set_option maxRecDepth 100000 in
theorem lifted (os : Os) (started : os.Started) (H : Type) (enc : TypeId × Value → H) :
    ReturnsInHanded {} Tryz.checked os 7 .any (fun w args => (Rows.fnExactReceivedSpec.pre enc Tryz.prog Tryz.f7 Rows.fnExactReceivedRow.domain false w args ∧ laidMetH Tryz.prog Rows.fnExactReceivedRow.laid w) ∧ sizedMet enc Tryz.prog Tryz.f7 (OpenSpec.ofChange Rows.fnExactReceivedSpec) false w args) (Rows.fnExactReceivedSpec.post enc Tryz.prog Tryz.f7 false true false false) := by
  refine returnsInHanded_of_change_and (C := Tryz.checked) (X := fun w _ => laidMetH Tryz.prog Rows.fnExactReceivedRow.laid w) (fun _ _ _ hh h => h.of_heap hh) own started (by kernel_rfl) Tryz.func7
    (ChangeSpec.witness_shaped (enc := enc) (C := Tryz.checked) (os := os) (X := fun w _ => laidMetH Tryz.prog Rows.fnExactReceivedRow.laid w) false (World.doorLaid Tryz.prog 111 os) #[.agg #[.int .i64 0, .int .i64 0, .int .i64 0, .int .i64 0, .slice none 0 0], .slice none 0 0, .int .i64 0] 8 rfl (World.shaped_of_RefB (by kernel_rfl) (by kernel_rfl)) (by kernel_rfl) (by kernel_rfl) (by kernel_rfl) (door_met os _)) ?_
  intro W base args ds gs before hval0 hW hcnd _ hL _
  have hval : ∀ (j : Nat) t v, Tryz.f7.params[j]? = some t → args[j]? = some v → Value.okWide Tryz.prog W .any base t v := hval0
  have hW' := hW
  obtain ⟨p, q, hA0, hV, rfl, hfz, hnd⟩ := hW
  have hA : DataW.TrodAll enc Tryz.prog W 0 (fun _ => true) true Tryz.f7.params.toList args.toList ds p := hA0
  rw [Tryz.params7] at hA hval
  obtain ⟨v0, vs0, d0, ds0, p0, q0, hargs, rfl, rfl, h0, r0⟩ := trodAll_cons hA
  obtain ⟨v1, vs1, d1, ds1, p1, q1, rfl, rfl, rfl, h1, r1⟩ := trodAll_cons r0
  obtain ⟨v2, vs2, d2, ds2, p2, q2, rfl, rfl, rfl, h2, r2⟩ := trodAll_cons r1
  obtain ⟨rfl, rfl, rfl⟩ := trodAll_nil r2
  obtain rfl : args = #[v0, v1, v2] := by cases args; simp_all
  obtain ⟨gg0, gg1, gg2, gg3, gg4, rfl⟩ := list5 (trodVars_len hV)
  have k0 := h0
  have lt0 : ∀ x ∈ p0, x.block < W.heap.size := by obtain ⟨m, hm⟩ := k0; exact DataW.trod_lt m _ _ _ hm
  have k1 := h1
  have lt1 : ∀ x ∈ p1, x.block < W.heap.size := by obtain ⟨m, hm⟩ := k1; exact DataW.trod_lt m _ _ _ hm
  have k2 := h2
  have lt2 : ∀ x ∈ p2, x.block < W.heap.size := by obtain ⟨m, hm⟩ := k2; exact DataW.trod_lt m _ _ _ hm
  obtain ⟨i0, x0, y0, z0, a0, l0, c0, us0, rfl, vec0⟩ := open_region (hval 0 58 v0 rfl rfl) h0
  obtain ⟨a1, l1, c1, rfl⟩ := okWide_slice Tryz.underlying56 (hval 1 56 v1 rfl rfl)
  obtain ⟨fu1, hf1⟩ := h1
  obtain ⟨us1, vec1⟩ := open_updates hf1
  obtain ⟨a2, rfl, rfl, rfl, wfa2⟩ := open_int Tryz.underlying2 (hval 2 2 v2 rfl rfl) h2
  clear hA0 hval0
  refine (walk i0 x0 y0 z0 a0 l0 c0 us0 a1 l1 c1 us1 a2 W vec0 vec1 (sens_of hL)).mono fun e W' ⟨he, bel⟩ => ?_
  subst he
  exact ⟨_, rfl, _, _, _, [], _, _, hW', trodAll_mk1 (shut_bool Tryz.underlying4 _), (trodAll_cons_mk (Below.trod laidOut (by kernel_rfl) (of_decide_eq_true (by kernel_rfl)) k0 bel lt0) (trodAll_cons_mk (Below.trod laidOut (by kernel_rfl) (of_decide_eq_true (by kernel_rfl)) k1 bel lt1) (trodAll_cons_mk (Below.trod laidOut (by kernel_rfl) (of_decide_eq_true (by kernel_rfl)) k2 bel lt2) trodAll_mk0))), Below.trodVars laidOut bel (by kernel_rfl) hV, bel.frame _, fun h => by cases h⟩

theorem over : Rows.fnExactReceivedRow.holds Tryz.pinned (OpenSpec.ofChange Rows.fnExactReceivedSpec) :=
  OpenClaim.holds_of_wide 7 Tryz.f7 rfl rfl rfl rfl rfl rfl rfl ⟨rfl, rfl, rfl, rfl, rfl⟩ rfl rfl rfl rfl rfl (by kernel_rfl) Tryz.func7 (by kernel_rfl)
    (of_decide_eq_true (by kernel_rfl)) (by unfold Func.isWrapper; first | (rw [if_pos (by decide +kernel)]; kernel_rfl) | (rw [if_neg (by decide +kernel)]; exact ⟨rfl, rfl⟩))
    (fun os started H enc _ => lifted os started H enc)

theorem proved : Rows.FnExactReceivedCardSaid :=
  Claim7.holds_tied_plain_at .later [] [.handle, .sentinel, .sentinel, .sentinel, .sentinel, .sentinel] true (true, "d847580c0baf8cb44f53c281aef2f508ffd1520f54dc402e0f6ffdcf892a1bba") true
    over (fun _ h => by cases h) (by kernel_rfl) (fun _ h => by cases h) fnExactReceived_row_tie rfl ⟨rfl, rfl⟩ (by kernel_rfl) rfl
    (fun f fn hf hfn => by
      obtain rfl : f = 7 := Option.some.inj ((show Tryz.prog.funcNamed "loop.example/g00368/laws.FnExactReceived" = some 7 by kernel_rfl).symm.trans hf) |>.symm
      obtain rfl : fn = Tryz.f7 := (Option.some.inj (Tryz.func7.symm.trans hfn)).symm
      exact ⟨by kernel_rfl, fun j t ht => by
        rw [Tryz.params7] at ht
        have hm : t ∈ [58, 56, 2] := by simpa using Array.mem_of_getElem? ht
        have hall : ([58, 56, 2].all fun u => !Tryz.prog.wantsStandIn u) = true := by kernel_rfl
        exact (show Tryz.prog.wantsStandIn t = false by simpa using List.all_eq_true.1 hall t hm)⟩)
    (by kernel_rfl)
end Go.Proofs.YtccendmoeelniaaGreatDoor.exReceived
namespace Go.Proofs.YtccendmoeelniaaGreatDoor
theorem fnExactReceived_holds : Rows.FnExactReceivedCardSaid := exReceived.proved
end Go.Proofs.YtccendmoeelniaaGreatDoor
