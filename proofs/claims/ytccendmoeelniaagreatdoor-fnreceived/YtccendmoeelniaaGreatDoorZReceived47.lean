/-
  Texts of one proof, joined: Dr1.
-/
import Derived.Test.YtccendmoeelniaaGreatDoorZReceived46
import Derived.Test.YtccendmoeelniaaGreatDoorZReceived43
namespace Go.Proofs.YtccendmoeelniaaGreatDoor
open Go.ChangeShapes Go.WideShapes Go.ChangeAt Go.RowKit
set_option linter.unusedSimpArgs false
set_option linter.unusedVariables false
def DrR (w w' : World) (e : Ending) : Prop := ∃ (r : M1.Rg) (v : Option Addr) (c : Nat) (ns : List M1.Upd) (sv : Option Addr) (sc : Nat) (now : Int), e = .returned (.tuple #[.agg #[.int .i64 r.id, .int .i64 r.a, .int .i64 r.b, .int .i64 r.c, .slice v r.us.length c], .slice sv ns.length sc, .int .i64 now]) ∧ MU w' v r.us.length c w.heap.size w'.heap.size (ucell r.us) ∧ M1.setOk r.us = true ∧ MU w' sv ns.length sc w.heap.size w'.heap.size (ucell ns) ∧ Short ns ∧ ns.length ≤ 60 ∧ Below w.heap.size w w'

set_option maxHeartbeats 8000000 in
set_option maxRecDepth 100000 in
theorem drawReceived_any (av : Option Addr) (len cap : Nat) (w : World) (h : IsBytes w av len cap) :
    Calls Tryz.prog 19 #[.slice av len cap] w fun e w' => DrR w w' e := by
  have hA : Below w.heap.size w (w.alloc (.cells #[.int .i64 0, .int .i64 0, .int .i64 0, .int .i64 0, .slice none 0 0] 28)) := (Below.refl _ _).alloc (Nat.le_refl _) _
  have z0 : RgAt (w.alloc (.cells #[.int .i64 0, .int .i64 0, .int .i64 0, .int .i64 0, .slice none 0 0] 28)) w.heap.size 0 0 0 0 none 0 0 := rg_new w 0 0 0 0 none 0 0 28
  go_enter Tryz.func19, Tryz.ntmps19
  go_upto_region 1 with fail
  obtain ⟨W0, hW0⟩ : ∃ W, (w.alloc (.cells #[.int .i64 0, .int .i64 0, .int .i64 0, .int .i64 0, .slice none 0 0] 28)) = W := ⟨_, rfl⟩
  rw [hW0] at hA z0 ⊢
  clear hW0
  obtain ⟨z, hz⟩ : ∃ z, Hid (w.heap.size = z) := ⟨_, rfl⟩
  have hzw : w.heap.size ≤ z := by have := hz.out; omega
  rw [hz.out] at z0 ⊢
  have zl0 := z0.lt
  go_wp2_with fail
  refine (l1Open_any _ _ _ _ (h.below (Nat.le_refl _) hA)).mono ?_
  rintro e w1 ⟨rfl, R1, hb1⟩
  obtain ⟨g, hg⟩ : ∃ g, Hid (W0.heap.size = g) := ⟨_, rfl⟩
  rw [hg.out] at R1 ⊢
  have hzg : ¬ z = g := by have := hg.out; omega
  have hgw : w.heap.size ≤ g := by have := hg.out; have := hA.size; omega
  have hgl := R1.lt
  have z1 : RgAt w1 z 0 0 0 0 none 0 0 := z0.below hb1
  have B1 := hA.trans (hb1.mono hA.size)
  have hs1 := hb1.size
  clear z0
  go_wp2_with fail
  refine (region_any _ _ _ _ 8 _ R1 (by omega) (by omega)).mono ?_
  rintro e w2 ⟨⟨r1, v1, c1, rfl, m1, hset1⟩, R2, G2⟩
  have hs2 := G2.size
  have z2 : RgAt w2 z 0 0 0 0 none 0 0 := RowAt.gr z1 G2 hzg
  have hb3 : Below w2.heap.size w2 (w2.alloc (.cells #[.int .i64 r1.id, .int .i64 r1.a, .int .i64 r1.b, .int .i64 r1.c, .slice v1 r1.us.length c1] 28)) := (Below.refl _ _).alloc (Nat.le_refl _) _
  have x3 := rg_new w2 r1.id r1.a r1.b r1.c v1 r1.us.length c1 28
  go_upto_region 3 with fail
  obtain ⟨w3, hw3⟩ : ∃ W, w2.alloc (.cells #[.int .i64 r1.id, .int .i64 r1.a, .int .i64 r1.b, .int .i64 r1.c, .slice v1 r1.us.length c1] 28) = W := ⟨_, rfl⟩
  rw [hw3] at hb3 x3 ⊢
  clear hw3
  obtain ⟨p1, hp1⟩ : ∃ b, Hid (w2.heap.size = b) := ⟨_, rfl⟩
  rw [hp1.out] at x3 ⊢
  have hp1g : ¬ p1 = g := by have := hp1.out; omega
  have hp1lo : w1.heap.size ≤ p1 := by have := hp1.out; omega
  have hs3 := hb3.size
  have p13 : RgAt w3 p1 r1.id r1.a r1.b r1.c v1 r1.us.length c1 := x3
  have z3 : RgAt w3 z 0 0 0 0 none 0 0 := z2.below hb3
  have R3 := R2.below hb3
  have ma3 := mu_high (m1.below hb3) hb3.size
  have G3 : Gr g w1 w3 := gr_trans G2 (gr_below hb3)
  have hlt1 := p13.lt
  clear z1 z2 x3 R1 R2
  go_wp2_with fail
  refine (region_any _ _ _ _ 10 _ R3 (by omega) (by omega)).mono ?_
  rintro e w4 ⟨⟨r2, v2, c2, rfl, m2, hset2⟩, R4, G4⟩
  have hs4 := G4.size
  have z4 : RgAt w4 z 0 0 0 0 none 0 0 := RowAt.gr z3 G4 hzg
  have p14 : RgAt w4 p1 r1.id r1.a r1.b r1.c v1 r1.us.length c1 := RowAt.gr p13 G4 hp1g
  have hb5 : Below w4.heap.size w4 (w4.alloc (.cells #[.int .i64 r2.id, .int .i64 r2.a, .int .i64 r2.b, .int .i64 r2.c, .slice v2 r2.us.length c2] 28)) := (Below.refl _ _).alloc (Nat.le_refl _) _
  have x5 := rg_new w4 r2.id r2.a r2.b r2.c v2 r2.us.length c2 28
  go_upto_region 4 with fail
  obtain ⟨w5, hw5⟩ : ∃ W, w4.alloc (.cells #[.int .i64 r2.id, .int .i64 r2.a, .int .i64 r2.b, .int .i64 r2.c, .slice v2 r2.us.length c2] 28) = W := ⟨_, rfl⟩
  rw [hw5] at hb5 x5 ⊢
  clear hw5
  obtain ⟨p2, hp2⟩ : ∃ b, Hid (w4.heap.size = b) := ⟨_, rfl⟩
  rw [hp2.out] at x5 ⊢
  have hp2g : ¬ p2 = g := by have := hp2.out; omega
  have hp2lo : w1.heap.size ≤ p2 := by have := hp2.out; omega
  have hs5 := hb5.size
  have p25 : RgAt w5 p2 r2.id r2.a r2.b r2.c v2 r2.us.length c2 := x5
  have p15 : RgAt w5 p1 r1.id r1.a r1.b r1.c v1 r1.us.length c1 := RowAt.below p14 hb5
  have z5 : RgAt w5 z 0 0 0 0 none 0 0 := z4.below hb5
  have R5 := R4.below hb5
  have ma5 := mu_high ((mu_high (ma3.gr G4 hgl) G4.size).below hb5) hb5.size
  have mb5 := mu_low (mu_high (m2.below hb5) hb5.size) (by omega : w1.heap.size ≤ w3.heap.size)
  have G5 : Gr g w1 w5 := gr_trans G3 (gr_trans G4 (gr_below hb5))
  have hlt2 := p25.lt
  have hp1z : ¬ p1 = z := by have := hp1.out; omega
  have hp2z : ¬ p2 = z := by have := hp2.out; omega
  clear z3 z4 p13 p14 x5 R3 R4 ma3 m2 G3
  go_upto_if 15 with (go_at_call 42; refine (once_any _ _ _ _ _ _ R5 (by omega) (by omega)).mono ?_; rintro e wa ⟨b, rfl, Ra, Ga⟩)
  have za : RgAt wa z 0 0 0 0 none 0 0 := RowAt.gr z5 Ga hzg
  have pa : RgAt wa p1 r1.id r1.a r1.b r1.c v1 r1.us.length c1 := RowAt.gr p15 Ga hp1g
  have qa : RgAt wa p2 r2.id r2.a r2.b r2.c v2 r2.us.length c2 := RowAt.gr p25 Ga hp2g
  have ma := mu_high (ma5.gr Ga hgl) Ga.size
  have mb := mu_high (mb5.gr Ga hgl) Ga.size
  have Gwa := gr_trans G5 Ga
  clear z5 p15 p25 ma5 mb5 R5 G5 Ga
  cases b with
  | true =>
    go_wp2_with fail
    refine wp_region_held_drew (S := fun w' => RgAt w' p1 r1.id r1.a r1.b r1.c v1 r1.us.length c1 ∧ RgAt w' p2 r2.id r2.a r2.b r2.c v2 r2.us.length c2) (by kernel_rfl) ?_ (fun hHeld => ?_)
    · exact ⟨RowAt.drew pa, RowAt.drew qa⟩
    refine wpAnyH_take (i := 0) (v := .agg #[.int .i64 r1.id, .int .i64 r1.a, .int .i64 r1.b, .int .i64 r1.c, .slice v1 r1.us.length c1]) rfl (by kernel_rfl) (by kernel_rfl) (by kernel_rfl) (fun _ _ _ h => h) (Or.inl ⟨by rfl, ?_⟩) hHeld ?_
    · (intro w hSw; (try dsimp only at hSw); go_simp; (obtain ⟨h0, h1, h2, h3, h4⟩ := RgAt.cells hSw.1; simp [go_sem, h0, h1, h2, h3, h4]))
    (try simp only [Act.put, aZ, bZ, cZ, dZ, eZ, fZ])
    refine wpAnyH_take (i := 1) (v := ?_) rfl (by kernel_rfl) (by kernel_rfl) (by kernel_rfl) (fun _ _ _ h => h) (Or.inl ⟨by rfl, ?_⟩) hHeld ?_
    rotate_left
    · (intro w hSw; (try dsimp only at hSw); go_simp; try (with_reducible rfl))
    (try simp only [Act.put, aZ, bZ, cZ, dZ, eZ, fZ])
    refine wpAnyH_take (i := 2) (v := .slice v2 r2.us.length c2) rfl (by kernel_rfl) (by kernel_rfl) (by kernel_rfl) (fun _ _ _ h => h) (Or.inl ⟨by rfl, ?_⟩) hHeld ?_
    · (intro w hSw; (try dsimp only at hSw); go_simp; (have h4 := (RgAt.cells hSw.2).2.2.2.2; simp [go_sem, h4]))
    (try simp only [Act.put, aZ, bZ, cZ, dZ, eZ, fZ])
    refine wpAnyH_take (i := 3) (v := ?_) rfl (by kernel_rfl) (by kernel_rfl) (by kernel_rfl) (fun _ _ _ h => h) (Or.inl ⟨by rfl, ?_⟩) hHeld ?_
    rotate_left
    · (intro w hSw; (try dsimp only at hSw); go_simp; try (with_reducible rfl))
    (try simp only [Act.put, aZ, bZ, cZ, dZ, eZ, fZ])
    obtain ⟨wb, hwb⟩ : ∃ W, wa.drew = W := ⟨_, rfl⟩
    have zb : RgAt wb z 0 0 0 0 none 0 0 := by rw [← hwb]; exact RowAt.drew za
    have Rb : Rdr wb g av len cap := by rw [← hwb]; exact Ra.below (Below.refl _ wa).drew
    have mab : MU wb v1 r1.us.length c1 w1.heap.size wb.heap.size (ucell r1.us) := by rw [← hwb]; exact mu_high (ma.below (Below.refl _ wa).drew) (Below.refl wa.heap.size wa).drew.size
    have mbb : MU wb v2 r2.us.length c2 w1.heap.size wb.heap.size (ucell r2.us) := by rw [← hwb]; exact mu_high (mb.below (Below.refl _ wa).drew) (Below.refl wa.heap.size wa).drew.size
    have Gb : Gr g w1 wb := by rw [← hwb]; exact gr_drew Gwa
    rw [hwb] at hHeld ⊢
    clear hwb
    refine wpAnyH_ready (rs := [4]) (by kernel_rfl) (by simp) ?_
    refine AllReadyH.cons (o := _) rfl (fun K hK => ?_) AllReadyH.nil
    go_simp
    (refine (below_any _ _ _ _ _ _ Rb (by omega) (by omega)).mono ?_; rintro e wc ⟨now, rfl, hn0, hn1, Rc, Gc⟩; go_wp2_with fail)
    refine hK.out _ _ ?_ (fun hHeld2 => ?_)
    · exact ⟨RowAt.gr hHeld.1 Gc hp1g, RowAt.gr hHeld.2 Gc hp2g⟩
    clear hK K hHeld
    have hHeld := hHeld2
    clear hHeld2
    (try simp only [Act.put, aZ, bZ, cZ, dZ, eZ, fZ])
    have zc : RgAt wc z 0 0 0 0 none 0 0 := RowAt.gr zb Gc hzg
    have mac := mu_high (mab.gr Gc hgl) Gc.size
    have mbc := mu_high (mbb.gr Gc hgl) Gc.size
    have GZ := gr_trans Gb Gc
    have Bc : Below w.heap.size w wc := B1.trans (gr_to GZ B1.size hgw)
    obtain ⟨a0, a1, a2, a3, a4⟩ := zc.cells
    obtain ⟨b0, b1, b2, b3, b4⟩ := zc.frees
    have zl := zc.lt
    refine wpAnyH_ready (rs := [5]) (by kernel_rfl) (by simp) ?_
    refine AllReadyH.cons (o := _) rfl (fun K hK => ?_) AllReadyH.nil
    go_simp
    skip
    refine hK.out _ _ ?_ (fun hHeld2 => ?_)
    · exact ⟨far5 hHeld.1 (fun e => hp1z e.symm) _ _ _ _ _, far5 hHeld.2 (fun e => hp2z e.symm) _ _ _ _ _⟩
    clear hK K hHeld
    have hHeld := hHeld2
    clear hHeld2
    (try simp only [Act.put, aZ, bZ, cZ, dZ, eZ, fZ])
    have zd : RgAt (((((wc.setCell ⟨z, 0, none⟩ (.int .i64 r1.id)).setCell ⟨z, 1, none⟩ (.int .i64 r1.a)).setCell ⟨z, 2, none⟩ (.int .i64 r1.b)).setCell ⟨z, 3, none⟩ (.int .i64 r1.c)).setCell ⟨z, 4, none⟩ (.slice v1 r1.us.length c1)) z r1.id r1.a r1.b r1.c v1 r1.us.length c1 := zc.put r1.id r1.a r1.b r1.c v1 r1.us.length c1
    have Bd : Below w.heap.size w (((((wc.setCell ⟨z, 0, none⟩ (.int .i64 r1.id)).setCell ⟨z, 1, none⟩ (.int .i64 r1.a)).setCell ⟨z, 2, none⟩ (.int .i64 r1.b)).setCell ⟨z, 3, none⟩ (.int .i64 r1.c)).setCell ⟨z, 4, none⟩ (.slice v1 r1.us.length c1)) := bel_put5 Bc hzw _ _ _ _ _
    have md : MU (((((wc.setCell ⟨z, 0, none⟩ (.int .i64 r1.id)).setCell ⟨z, 1, none⟩ (.int .i64 r1.a)).setCell ⟨z, 2, none⟩ (.int .i64 r1.b)).setCell ⟨z, 3, none⟩ (.int .i64 r1.c)).setCell ⟨z, 4, none⟩ (.slice v1 r1.us.length c1)) v1 r1.us.length c1 w1.heap.size (((((wc.setCell ⟨z, 0, none⟩ (.int .i64 r1.id)).setCell ⟨z, 1, none⟩ (.int .i64 r1.a)).setCell ⟨z, 2, none⟩ (.int .i64 r1.b)).setCell ⟨z, 3, none⟩ (.int .i64 r1.c)).setCell ⟨z, 4, none⟩ (.slice v1 r1.us.length c1)).heap.size (ucell r1.us) := mu_put5 mac (fun q hq => mu_block mac (by omega) q hq) _ _ _ _ _
    have mdd : MU (((((wc.setCell ⟨z, 0, none⟩ (.int .i64 r1.id)).setCell ⟨z, 1, none⟩ (.int .i64 r1.a)).setCell ⟨z, 2, none⟩ (.int .i64 r1.b)).setCell ⟨z, 3, none⟩ (.int .i64 r1.c)).setCell ⟨z, 4, none⟩ (.slice v1 r1.us.length c1)) v2 r2.us.length c2 w1.heap.size (((((wc.setCell ⟨z, 0, none⟩ (.int .i64 r1.id)).setCell ⟨z, 1, none⟩ (.int .i64 r1.a)).setCell ⟨z, 2, none⟩ (.int .i64 r1.b)).setCell ⟨z, 3, none⟩ (.int .i64 r1.c)).setCell ⟨z, 4, none⟩ (.slice v1 r1.us.length c1)).heap.size (ucell r2.us) := mu_put5 mbc (fun q hq => mu_block mbc (by omega) q hq) _ _ _ _ _
    refine wpAnyH_take (i := 6) (v := ?_) rfl (by kernel_rfl) (by kernel_rfl) (by kernel_rfl) (fun _ _ _ h => h) (Or.inl ⟨by rfl, ?_⟩) hHeld ?_
    rotate_left
    · (intro w hSw; (try dsimp only at hSw); go_simp; try (with_reducible rfl))
    (try simp only [Act.put, aZ, bZ, cZ, dZ, eZ, fZ])
    refine wpAnyH_take (i := 7) (v := ?_) rfl (by kernel_rfl) (by kernel_rfl) (by kernel_rfl) (fun _ _ _ h => h) (Or.inl ⟨by rfl, ?_⟩) hHeld ?_
    rotate_left
    · (intro w hSw; (try dsimp only at hSw); go_simp; try (with_reducible rfl))
    (try simp only [Act.put, aZ, bZ, cZ, dZ, eZ, fZ])
    refine wpAnyH_done (by kernel_rfl) ?_ _
    clear hHeld a0 a1 a2 a3 a4 b0 b1 b2 b3 b4
    go_wp2_with fail
    obtain ⟨wz, hwz⟩ : ∃ W, (((((wc.setCell ⟨z, 0, none⟩ (.int .i64 r1.id)).setCell ⟨z, 1, none⟩ (.int .i64 r1.a)).setCell ⟨z, 2, none⟩ (.int .i64 r1.b)).setCell ⟨z, 3, none⟩ (.int .i64 r1.c)).setCell ⟨z, 4, none⟩ (.slice v1 r1.us.length c1)) = W := ⟨_, rfl⟩
    rw [hwz] at zd Bd md mdd ⊢
    clear hwz
    obtain ⟨f0, f1, f2, f3, f4⟩ := zd.cells
    refine bodyPost_ret (v := .tuple #[.agg #[.int .i64 r1.id, .int .i64 r1.a, .int .i64 r1.b, .int .i64 r1.c, .slice v1 r1.us.length c1], .slice v2 r2.us.length c2, .int .i64 now]) (by simp [results, Tryz.results19, go_sem, f0, f1, f2, f3, f4]) rfl ?_
    exact ⟨r1, v1, c1, r2.us, v2, c2, now, rfl, mu_low md B1.size, hset1, mu_low mdd B1.size, set_Short hset2, M1.setOk_len hset2, Bd⟩
  | false =>
    go_wp2_with fail
    refine wp_region_held_drew (S := fun w' => RgAt w' p1 r1.id r1.a r1.b r1.c v1 r1.us.length c1 ∧ RgAt w' p2 r2.id r2.a r2.b r2.c v2 r2.us.length c2) (by kernel_rfl) ?_ (fun hHeld => ?_)
    · exact ⟨RowAt.drew pa, RowAt.drew qa⟩
    refine wpAnyH_take (i := 0) (v := .agg #[.int .i64 r1.id, .int .i64 r1.a, .int .i64 r1.b, .int .i64 r1.c, .slice v1 r1.us.length c1]) rfl (by kernel_rfl) (by kernel_rfl) (by kernel_rfl) (fun _ _ _ h => h) (Or.inl ⟨by rfl, ?_⟩) hHeld ?_
    · (intro w hSw; (try dsimp only at hSw); go_simp; (obtain ⟨h0, h1, h2, h3, h4⟩ := RgAt.cells hSw.1; simp [go_sem, h0, h1, h2, h3, h4]))
    (try simp only [Act.put, aZ, bZ, cZ, dZ, eZ, fZ])
    refine wpAnyH_take (i := 1) (v := ?_) rfl (by kernel_rfl) (by kernel_rfl) (by kernel_rfl) (fun _ _ _ h => h) (Or.inl ⟨by rfl, ?_⟩) hHeld ?_
    rotate_left
    · (intro w hSw; (try dsimp only at hSw); go_simp; try (with_reducible rfl))
    (try simp only [Act.put, aZ, bZ, cZ, dZ, eZ, fZ])
    refine wpAnyH_take (i := 2) (v := .slice v2 r2.us.length c2) rfl (by kernel_rfl) (by kernel_rfl) (by kernel_rfl) (fun _ _ _ h => h) (Or.inl ⟨by rfl, ?_⟩) hHeld ?_
    · (intro w hSw; (try dsimp only at hSw); go_simp; (have h4 := (RgAt.cells hSw.2).2.2.2.2; simp [go_sem, h4]))
    (try simp only [Act.put, aZ, bZ, cZ, dZ, eZ, fZ])
    refine wpAnyH_take (i := 3) (v := ?_) rfl (by kernel_rfl) (by kernel_rfl) (by kernel_rfl) (fun _ _ _ h => h) (Or.inl ⟨by rfl, ?_⟩) hHeld ?_
    rotate_left
    · (intro w hSw; (try dsimp only at hSw); go_simp; try (with_reducible rfl))
    (try simp only [Act.put, aZ, bZ, cZ, dZ, eZ, fZ])
    obtain ⟨wb, hwb⟩ : ∃ W, wa.drew = W := ⟨_, rfl⟩
    have zb : RgAt wb z 0 0 0 0 none 0 0 := by rw [← hwb]; exact RowAt.drew za
    have Rb : Rdr wb g av len cap := by rw [← hwb]; exact Ra.below (Below.refl _ wa).drew
    have mab : MU wb v1 r1.us.length c1 w1.heap.size wb.heap.size (ucell r1.us) := by rw [← hwb]; exact mu_high (ma.below (Below.refl _ wa).drew) (Below.refl wa.heap.size wa).drew.size
    have mbb : MU wb v2 r2.us.length c2 w1.heap.size wb.heap.size (ucell r2.us) := by rw [← hwb]; exact mu_high (mb.below (Below.refl _ wa).drew) (Below.refl wa.heap.size wa).drew.size
    have Gb : Gr g w1 wb := by rw [← hwb]; exact gr_drew Gwa
    rw [hwb] at hHeld ⊢
    clear hwb
    refine wpAnyH_take (i := 4) (v := .slice v1 r1.us.length c1) rfl (by kernel_rfl) (by kernel_rfl) (by kernel_rfl) (fun _ _ _ h => h) (Or.inl ⟨by rfl, ?_⟩) hHeld ?_
    · (intro w hSw; (try dsimp only at hSw); go_simp; (have h4 := (RgAt.cells hSw.1).2.2.2.2; simp [go_sem, h4]))
    (try simp only [Act.put, aZ, bZ, cZ, dZ, eZ, fZ])
    refine wpAnyH_take (i := 6) (v := ?_) rfl (by kernel_rfl) (by kernel_rfl) (by kernel_rfl) (fun _ _ _ h => h) (Or.inl ⟨by rfl, ?_⟩) hHeld ?_
    rotate_left
    · (intro w hSw; (try dsimp only at hSw); go_simp; try (with_reducible rfl))
    (try simp only [Act.put, aZ, bZ, cZ, dZ, eZ, fZ])
    refine wpAnyH_take (i := 10) (v := ?_) rfl (by kernel_rfl) (by kernel_rfl) (by kernel_rfl) (fun _ _ _ h => h) (Or.inl ⟨by rfl, ?_⟩) hHeld ?_
    rotate_left
    · (intro w hSw; (try dsimp only at hSw); go_simp; try (with_reducible rfl))
    (try simp only [Act.put, aZ, bZ, cZ, dZ, eZ, fZ])
    have hl1 := M1.setOk_len hset1
    have hl2 := M1.setOk_len hset2
    refine wpAnyH_ready (rs := [5]) (by kernel_rfl) (by simp) ?_
    refine AllReadyH.cons (o := _) rfl (fun K hK => ?_) AllReadyH.nil
    go_simp
    (refine (l3Vector_gen _ _ _ r1.us _ (mab.upds rfl (set_short2 hset1)) (by omega)).mono ?_; rintro e wc ⟨⟨v5, rfl, own5⟩, hb5'⟩; obtain ⟨dv, dc, rfl, mv5⟩ := MV.of_owns own5; go_wp2_with fail)
    refine hK.out _ _ ?_ (fun hHeld2 => ?_)
    · exact ⟨RowAt.below hHeld.1 hb5', RowAt.below hHeld.2 hb5'⟩
    clear hK K hHeld
    have hHeld := hHeld2
    clear hHeld2
    (try simp only [Act.put, aZ, bZ, cZ, dZ, eZ, fZ])
    replace zb : RgAt wc z 0 0 0 0 none 0 0 := zb.below hb5'
    replace Rb := Rb.below hb5'
    replace mab := mu_high (mab.below hb5') hb5'.size
    replace mbb := mu_high (mbb.below hb5') hb5'.size
    have hsb := Gb.size
    replace Gb := gr_trans Gb (gr_below hb5')
    refine wpAnyH_ready (rs := [7]) (by kernel_rfl) (by simp) ?_
    refine AllReadyH.cons (o := _) rfl (fun K hK => ?_) AllReadyH.nil
    go_simp
    (refine (below_any _ _ _ _ _ _ Rb (by omega) (by omega)).mono ?_; rintro e wd ⟨m, rfl, hm0, hm1, Rd, Gd⟩; go_wp2_with fail)
    refine hK.out _ _ ?_ (fun hHeld2 => ?_)
    · exact ⟨RowAt.gr hHeld.1 Gd hp1g, RowAt.gr hHeld.2 Gd hp2g⟩
    clear hK K hHeld
    have hHeld := hHeld2
    clear hHeld2
    (try simp only [Act.put, aZ, bZ, cZ, dZ, eZ, fZ])
    replace zb : RgAt wd z 0 0 0 0 none 0 0 := RowAt.gr zb Gd hzg
    replace mab := mu_high (mab.gr Gd hgl) Gd.size
    replace mbb := mu_high (mbb.gr Gd hgl) Gd.size
    replace Gb := gr_trans Gb Gd
    have vec := (mv_gr mv5 Gd (by omega)).vec rfl
    refine wpAnyH_take (i := 8) (v := .int .i64 (1 + m)) rfl (by kernel_rfl) (by kernel_rfl) (by kernel_rfl) (fun _ _ _ h => h) (Or.inl ⟨by rfl, ?_⟩) hHeld ?_
    · (intro w hSw; (try dsimp only at hSw); go_simp; (try exact IntWalk.i64_in _ (by omega)))
    (try simp only [Act.put, aZ, bZ, cZ, dZ, eZ, fZ])
    refine wpAnyH_ready (rs := [9]) (by kernel_rfl) (by simp) ?_
    refine AllReadyH.cons (o := _) rfl (fun K hK => ?_) AllReadyH.nil
    go_simp
    (refine (l3Since_gen _ _ _ _ _ _ r2.us _ (1 + m) _ (mbb.upds rfl (set_short2 hset2)) vec (set_Short hset2) (by omega) (by omega) (by omega)).mono ?_; rintro e we ⟨⟨v9, ns, rfl, own9, hnl, hsh⟩, hb9⟩; obtain ⟨sv, sc, rfl, ms⟩ := MU.of_owns own9; go_wp2_with fail)
    refine hK.out _ _ ?_ (fun hHeld2 => ?_)
    · exact ⟨RowAt.below hHeld.1 hb9, RowAt.below hHeld.2 hb9⟩
    clear hK K hHeld
    have hHeld := hHeld2
    clear hHeld2
    (try simp only [Act.put, aZ, bZ, cZ, dZ, eZ, fZ])
    have hsd := Gb.size
    replace zb : RgAt we z 0 0 0 0 none 0 0 := zb.below hb9
    replace Rd := Rd.below hb9
    replace mab := mu_high (mab.below hb9) hb9.size
    replace Gb := gr_trans Gb (gr_below hb9)
    have ms2 := mu_low ms hsd
    refine wpAnyH_ready (rs := [11]) (by kernel_rfl) (by simp) ?_
    refine AllReadyH.cons (o := _) rfl (fun K hK => ?_) AllReadyH.nil
    go_simp
    (refine (below_any _ _ _ _ _ _ Rd (by omega) (by omega)).mono ?_; rintro e wf ⟨now, rfl, hn0, hn1, Rf, Gf⟩; go_wp2_with fail)
    refine hK.out _ _ ?_ (fun hHeld2 => ?_)
    · exact ⟨RowAt.gr hHeld.1 Gf hp1g, RowAt.gr hHeld.2 Gf hp2g⟩
    clear hK K hHeld
    have hHeld := hHeld2
    clear hHeld2
    (try simp only [Act.put, aZ, bZ, cZ, dZ, eZ, fZ])
    have zc : RgAt wf z 0 0 0 0 none 0 0 := RowAt.gr zb Gf hzg
    have mac := mu_high (mab.gr Gf hgl) Gf.size
    have mbc := mu_high (ms2.gr Gf hgl) Gf.size
    have GZ := gr_trans Gb Gf
    have Bc : Below w.heap.size w wf := B1.trans (gr_to GZ B1.size hgw)
    obtain ⟨a0, a1, a2, a3, a4⟩ := zc.cells
    obtain ⟨b0, b1, b2, b3, b4⟩ := zc.frees
    have zl := zc.lt
    refine wpAnyH_ready (rs := [12]) (by kernel_rfl) (by simp) ?_
    refine AllReadyH.cons (o := _) rfl (fun K hK => ?_) AllReadyH.nil
    go_simp
    skip
    refine hK.out _ _ ?_ (fun hHeld2 => ?_)
    · exact ⟨far5 hHeld.1 (fun e => hp1z e.symm) _ _ _ _ _, far5 hHeld.2 (fun e => hp2z e.symm) _ _ _ _ _⟩
    clear hK K hHeld
    have hHeld := hHeld2
    clear hHeld2
    (try simp only [Act.put, aZ, bZ, cZ, dZ, eZ, fZ])
    have zd : RgAt (((((wf.setCell ⟨z, 0, none⟩ (.int .i64 r1.id)).setCell ⟨z, 1, none⟩ (.int .i64 r1.a)).setCell ⟨z, 2, none⟩ (.int .i64 r1.b)).setCell ⟨z, 3, none⟩ (.int .i64 r1.c)).setCell ⟨z, 4, none⟩ (.slice v1 r1.us.length c1)) z r1.id r1.a r1.b r1.c v1 r1.us.length c1 := zc.put r1.id r1.a r1.b r1.c v1 r1.us.length c1
    have Bd : Below w.heap.size w (((((wf.setCell ⟨z, 0, none⟩ (.int .i64 r1.id)).setCell ⟨z, 1, none⟩ (.int .i64 r1.a)).setCell ⟨z, 2, none⟩ (.int .i64 r1.b)).setCell ⟨z, 3, none⟩ (.int .i64 r1.c)).setCell ⟨z, 4, none⟩ (.slice v1 r1.us.length c1)) := bel_put5 Bc hzw _ _ _ _ _
    have md : MU (((((wf.setCell ⟨z, 0, none⟩ (.int .i64 r1.id)).setCell ⟨z, 1, none⟩ (.int .i64 r1.a)).setCell ⟨z, 2, none⟩ (.int .i64 r1.b)).setCell ⟨z, 3, none⟩ (.int .i64 r1.c)).setCell ⟨z, 4, none⟩ (.slice v1 r1.us.length c1)) v1 r1.us.length c1 w1.heap.size (((((wf.setCell ⟨z, 0, none⟩ (.int .i64 r1.id)).setCell ⟨z, 1, none⟩ (.int .i64 r1.a)).setCell ⟨z, 2, none⟩ (.int .i64 r1.b)).setCell ⟨z, 3, none⟩ (.int .i64 r1.c)).setCell ⟨z, 4, none⟩ (.slice v1 r1.us.length c1)).heap.size (ucell r1.us) := mu_put5 mac (fun q hq => mu_block mac (by omega) q hq) _ _ _ _ _
    have mdd : MU (((((wf.setCell ⟨z, 0, none⟩ (.int .i64 r1.id)).setCell ⟨z, 1, none⟩ (.int .i64 r1.a)).setCell ⟨z, 2, none⟩ (.int .i64 r1.b)).setCell ⟨z, 3, none⟩ (.int .i64 r1.c)).setCell ⟨z, 4, none⟩ (.slice v1 r1.us.length c1)) sv ns.length sc w1.heap.size (((((wf.setCell ⟨z, 0, none⟩ (.int .i64 r1.id)).setCell ⟨z, 1, none⟩ (.int .i64 r1.a)).setCell ⟨z, 2, none⟩ (.int .i64 r1.b)).setCell ⟨z, 3, none⟩ (.int .i64 r1.c)).setCell ⟨z, 4, none⟩ (.slice v1 r1.us.length c1)).heap.size (ucell ns) := mu_put5 mbc (fun q hq => mu_block mbc (by omega) q hq) _ _ _ _ _
    refine wpAnyH_take (i := 13) (v := ?_) rfl (by kernel_rfl) (by kernel_rfl) (by kernel_rfl) (fun _ _ _ h => h) (Or.inl ⟨by rfl, ?_⟩) hHeld ?_
    rotate_left
    · (intro w hSw; (try dsimp only at hSw); go_simp; try (with_reducible rfl))
    (try simp only [Act.put, aZ, bZ, cZ, dZ, eZ, fZ])
    refine wpAnyH_take (i := 14) (v := ?_) rfl (by kernel_rfl) (by kernel_rfl) (by kernel_rfl) (fun _ _ _ h => h) (Or.inl ⟨by rfl, ?_⟩) hHeld ?_
    rotate_left
    · (intro w hSw; (try dsimp only at hSw); go_simp; try (with_reducible rfl))
    (try simp only [Act.put, aZ, bZ, cZ, dZ, eZ, fZ])
    refine wpAnyH_done (by kernel_rfl) ?_ _
    clear hHeld a0 a1 a2 a3 a4 b0 b1 b2 b3 b4
    go_wp2_with fail
    obtain ⟨wz, hwz⟩ : ∃ W, (((((wf.setCell ⟨z, 0, none⟩ (.int .i64 r1.id)).setCell ⟨z, 1, none⟩ (.int .i64 r1.a)).setCell ⟨z, 2, none⟩ (.int .i64 r1.b)).setCell ⟨z, 3, none⟩ (.int .i64 r1.c)).setCell ⟨z, 4, none⟩ (.slice v1 r1.us.length c1)) = W := ⟨_, rfl⟩
    rw [hwz] at zd Bd md mdd ⊢
    clear hwz
    obtain ⟨f0, f1, f2, f3, f4⟩ := zd.cells
    refine bodyPost_ret (v := .tuple #[.agg #[.int .i64 r1.id, .int .i64 r1.a, .int .i64 r1.b, .int .i64 r1.c, .slice v1 r1.us.length c1], .slice sv ns.length sc, .int .i64 now]) (by simp [results, Tryz.results19, go_sem, f0, f1, f2, f3, f4]) rfl ?_
    exact ⟨r1, v1, c1, ns, sv, sc, now, rfl, mu_low md B1.size, hset1, mu_low mdd B1.size, hsh, by omega, Bd⟩

end Go.Proofs.YtccendmoeelniaaGreatDoor
