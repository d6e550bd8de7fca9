/-
  Texts of one proof, joined: Dr1.
-/
import Derived.Test.YtccendmoeelniaaGreatDoorZFIssued47
import Derived.Test.YtccendmoeelniaaGreatDoorZFIssued45
namespace Go.Proofs.YtccendmoeelniaaGreatDoor
open Go.ChangeShapes Go.WideShapes Go.ChangeAt Go.RowKit
set_option linter.unusedSimpArgs false
set_option linter.unusedVariables false
theorem far7 {w : World} {k m z : Nat} {f : Nat → Value} (h : RowAt w k m f) (hn : ¬ z = k) (v0 v1 v2 v3 v4 v5 v6 : Value) : RowAt (((((((w.setCell ⟨z, 0, none⟩ (v0)).setCell ⟨z, 1, none⟩ (v1)).setCell ⟨z, 2, none⟩ (v2)).setCell ⟨z, 3, none⟩ (v3)).setCell ⟨z, 4, none⟩ (v4)).setCell ⟨z, 5, none⟩ (v5)).setCell ⟨z, 6, none⟩ (v6)) k m f :=
 far1 (far1 (far1 (far1 (far1 (far1 (far1 h hn v0) hn v1) hn v2) hn v3) hn v4) hn v5) hn v6

theorem bel_put7 {a w : World} {B z : Nat} (h : Below B a w) (hz : B ≤ z) (v0 v1 v2 v3 v4 v5 v6 : Value) : Below B a (((((((w.setCell ⟨z, 0, none⟩ (v0)).setCell ⟨z, 1, none⟩ (v1)).setCell ⟨z, 2, none⟩ (v2)).setCell ⟨z, 3, none⟩ (v3)).setCell ⟨z, 4, none⟩ (v4)).setCell ⟨z, 5, none⟩ (v5)).setCell ⟨z, 6, none⟩ (v6)) :=
 bel1 (bel1 (bel1 (bel1 (bel1 (bel1 (bel1 h hz v0) hz v1) hz v2) hz v3) hz v4) hz v5) hz v6

theorem mu_put7 {w : World} {av : Option Addr} {n cap lo z : Nat} {f : Nat → Value} (h : MU w av n cap lo w.heap.size f) (hz : z < lo) (v0 v1 v2 v3 v4 v5 v6 : Value) : MU (((((((w.setCell ⟨z, 0, none⟩ (v0)).setCell ⟨z, 1, none⟩ (v1)).setCell ⟨z, 2, none⟩ (v2)).setCell ⟨z, 3, none⟩ (v3)).setCell ⟨z, 4, none⟩ (v4)).setCell ⟨z, 5, none⟩ (v5)).setCell ⟨z, 6, none⟩ (v6)) av n cap lo (((((((w.setCell ⟨z, 0, none⟩ (v0)).setCell ⟨z, 1, none⟩ (v1)).setCell ⟨z, 2, none⟩ (v2)).setCell ⟨z, 3, none⟩ (v3)).setCell ⟨z, 4, none⟩ (v4)).setCell ⟨z, 5, none⟩ (v5)).setCell ⟨z, 6, none⟩ (v6)).heap.size f :=
 mu_one (mu_one (mu_one (mu_one (mu_one (mu_one (mu_one h hz v0) hz v1) hz v2) hz v3) hz v4) hz v5) hz v6

def DrI (w w' : World) (e : Ending) : Prop := ∃ (r : M1.Rg) (v : Option Addr) (c : Nat) (x : M1.OpV) (now : Int), e = .returned (.tuple #[.agg #[.int .i64 r.id, .int .i64 r.a, .int .i64 r.b, .int .i64 r.c, .slice v r.us.length c], .agg #[.int .i64 x.k, .int .i64 x.t, .int .i64 x.id, .int .i64 x.pa, .string x.s, .int .i64 x.st, .int .i64 x.en], .int .i64 now]) ∧ MU w' v r.us.length c w.heap.size w'.heap.size (ucell r.us) ∧ M1.setOk r.us = true ∧ x.s.size ≤ 4 ∧ Below w.heap.size w w'

set_option maxHeartbeats 8000000 in
set_option maxRecDepth 100000 in
theorem drawIssued_any (av : Option Addr) (len cap : Nat) (w : World) (h : IsBytes w av len cap) :
  Calls Tryz.prog 9 #[.slice av len cap] w fun e w' => DrI w w' e := by
 have hA : Below w.heap.size w ((w.alloc (.cells #[.int .i64 0, .int .i64 0, .int .i64 0, .int .i64 0, .slice none 0 0] 28)).alloc (.cells #[.int .i64 0, .int .i64 0, .int .i64 0, .int .i64 0, .string ⟨#[]⟩, .int .i64 0, .int .i64 0] 32)) := ((Below.refl _ _).alloc (Nat.le_refl _) _).alloc (by simp) _
 have z0 : RgAt ((w.alloc (.cells #[.int .i64 0, .int .i64 0, .int .i64 0, .int .i64 0, .slice none 0 0] 28)).alloc (.cells #[.int .i64 0, .int .i64 0, .int .i64 0, .int .i64 0, .string ⟨#[]⟩, .int .i64 0, .int .i64 0] 32)) w.heap.size 0 0 0 0 none 0 0 := (rg_new w 0 0 0 0 none 0 0 28).alloc _
 have y0 : OpAt ((w.alloc (.cells #[.int .i64 0, .int .i64 0, .int .i64 0, .int .i64 0, .slice none 0 0] 28)).alloc (.cells #[.int .i64 0, .int .i64 0, .int .i64 0, .int .i64 0, .string ⟨#[]⟩, .int .i64 0, .int .i64 0] 32)) (w.alloc (.cells #[.int .i64 0, .int .i64 0, .int .i64 0, .int .i64 0, .slice none 0 0] 28)).heap.size ⟨0, 0, 0, 0, ⟨#[]⟩, 0, 0⟩ := op_new (w.alloc (.cells #[.int .i64 0, .int .i64 0, .int .i64 0, .int .i64 0, .slice none 0 0] 28)) ⟨0, 0, 0, 0, ⟨#[]⟩, 0, 0⟩ 32
 rw [show (w.alloc (.cells #[.int .i64 0, .int .i64 0, .int .i64 0, .int .i64 0, .slice none 0 0] 28)).heap.size = w.heap.size + 1 by simp] at y0
 go_enter Tryz.func9, Tryz.ntmps9
 go_upto_region 1 with fail
 obtain ⟨W0, hW0⟩ : ∃ W, ((w.alloc (.cells #[.int .i64 0, .int .i64 0, .int .i64 0, .int .i64 0, .slice none 0 0] 28)).alloc (.cells #[.int .i64 0, .int .i64 0, .int .i64 0, .int .i64 0, .string ⟨#[]⟩, .int .i64 0, .int .i64 0] 32)) = W := ⟨_, rfl⟩
 rw [hW0] at hA z0 y0 ⊢
 clear hW0
 obtain ⟨y, hy⟩ : ∃ z, Hid (w.heap.size + 1 = z) := ⟨_, rfl⟩
 obtain ⟨z, hz⟩ : ∃ z, Hid (w.heap.size = z) := ⟨_, rfl⟩
 have hzw : w.heap.size ≤ z := by have := hz.out; omega
 have hyw : w.heap.size ≤ y := by have := hy.out; omega
 have hyz : ¬ y = z := by have := hy.out; have := hz.out; omega
 have hzy : ¬ z = y := fun e => hyz e.symm
 rw [hy.out] at y0 ⊢
 rw [hz.out] at z0 ⊢
 have zl0 := z0.lt
 have yl0 := y0.lt
 go_wp2_with fail
 refine (l1Open_any _ _ _ _ (h.below (Nat.le_refl _) hA)).mono ?_
 rintro e w1 ⟨rfl, R1, hb1⟩
 obtain ⟨g, hg⟩ : ∃ g, Hid (W0.heap.size = g) := ⟨_, rfl⟩
 rw [hg.out] at R1 ⊢
 have hzg : ¬ z = g := by have := hg.out; omega
 have hyg : ¬ y = g := by have := hg.out; omega
 have hgw : w.heap.size ≤ g := by have := hg.out; have := hA.size; omega
 have hgl := R1.lt
 have z1 : RgAt w1 z 0 0 0 0 none 0 0 := z0.below hb1
 have y1 : OpAt w1 y ⟨0, 0, 0, 0, ⟨#[]⟩, 0, 0⟩ := RowAt.below y0 hb1
 have B1 := hA.trans (hb1.mono hA.size)
 have hs1 := hb1.size
 clear z0 y0
 go_wp2_with fail
 refine (region_any _ _ _ _ 10 _ R1 (by omega) (by omega)).mono ?_
 rintro e w2 ⟨⟨r1, v1, c1, rfl, m1, hset1⟩, R2, G2⟩
 have hs2 := G2.size
 have z2 : RgAt w2 z 0 0 0 0 none 0 0 := RowAt.gr z1 G2 hzg
 have y2 : OpAt w2 y ⟨0, 0, 0, 0, ⟨#[]⟩, 0, 0⟩ := RowAt.gr y1 G2 hyg
 have hb3 : Below w2.heap.size w2 (w2.alloc (.cells #[.int .i64 r1.id, .int .i64 r1.a, .int .i64 r1.b, .int .i64 r1.c, .slice v1 r1.us.length c1] 28)) := (Below.refl _ _).alloc (Nat.le_refl _) _
 have x3 := rg_new w2 r1.id r1.a r1.b r1.c v1 r1.us.length c1 28
 go_upto_region 3 with fail
 obtain ⟨w3, hw3⟩ : ∃ W, w2.alloc (.cells #[.int .i64 r1.id, .int .i64 r1.a, .int .i64 r1.b, .int .i64 r1.c, .slice v1 r1.us.length c1] 28) = W := ⟨_, rfl⟩
 rw [hw3] at hb3 x3 ⊢
 clear hw3
 obtain ⟨p1, hp1⟩ : ∃ b, Hid (w2.heap.size = b) := ⟨_, rfl⟩
 rw [hp1.out] at x3 ⊢
 have hp1g : ¬ p1 = g := by have := hp1.out; omega
 have hp1lo : w1.heap.size ≤ p1 := by have := hp1.out; omega
 have hs3 := hb3.size
 have p13 : RgAt w3 p1 r1.id r1.a r1.b r1.c v1 r1.us.length c1 := x3
 have z3 : RgAt w3 z 0 0 0 0 none 0 0 := z2.below hb3
 have y3 : OpAt w3 y ⟨0, 0, 0, 0, ⟨#[]⟩, 0, 0⟩ := RowAt.below y2 hb3
 have R3 := R2.below hb3
 have m3 := mu_high (m1.below hb3) hb3.size
 have G3 : Gr g w1 w3 := gr_trans G2 (gr_below hb3)
 have hlt1 := p13.lt
 clear z1 y1 z2 y2 x3 R1 R2
 go_wp2_with fail
 refine (op_any _ _ _ _ _ R3).mono ?_
 rintro e w4 ⟨⟨x, rfl, hx⟩, R4, G4⟩
 have hs4 := G4.size
 have z4 : RgAt w4 z 0 0 0 0 none 0 0 := RowAt.gr z3 G4 hzg
 have y4 : OpAt w4 y ⟨0, 0, 0, 0, ⟨#[]⟩, 0, 0⟩ := RowAt.gr y3 G4 hyg
 have p14 : RgAt w4 p1 r1.id r1.a r1.b r1.c v1 r1.us.length c1 := RowAt.gr p13 G4 hp1g
 have m4 := mu_high (m3.gr G4 hgl) G4.size
 have Gw4 := gr_trans G3 G4
 have hb5 : Below w4.heap.size w4 (w4.alloc (.cells #[.int .i64 x.k, .int .i64 x.t, .int .i64 x.id, .int .i64 x.pa, .string x.s, .int .i64 x.st, .int .i64 x.en] 32)) := (Below.refl _ _).alloc (Nat.le_refl _) _
 have q5 := op_new w4 x 32
 have hnq : len = 0 ∨ ∃ b off, av = some ⟨b, off, none⟩ ∧ ¬ w4.heap.size = b := R4.old (Nat.le_refl _)
 go_upto_region 4 with fail
 obtain ⟨w5, hw5⟩ : ∃ W, w4.alloc (.cells #[.int .i64 x.k, .int .i64 x.t, .int .i64 x.id, .int .i64 x.pa, .string x.s, .int .i64 x.st, .int .i64 x.en] 32) = W := ⟨_, rfl⟩
 rw [hw5] at hb5 q5 ⊢
 clear hw5
 obtain ⟨p2, hp2⟩ : ∃ b, Hid (w4.heap.size = b) := ⟨_, rfl⟩
 have hp2g : ¬ p2 = g := by have := hp2.out; omega
 have hp2lo : w1.heap.size ≤ p2 := by have := hp2.out; omega
 have hp2z : ¬ p2 = z := by have := hp2.out; omega
 have hp2y : ¬ p2 = y := by have := hp2.out; omega
 have hp21 : ¬ p2 = p1 := by have := hp2.out; omega
 have hp1z : ¬ p1 = z := by have := hp1.out; omega
 have hp1y : ¬ p1 = y := by have := hp1.out; omega
 have hMp2 : ∀ q, v1 = some q → ¬ q.block = p2 := fun q hq => by
  have := hp2.out
  rcases m4.2.2 with ⟨_, e⟩ | ⟨k, e, h1, h2, _⟩
  ·rw [e] at hq; cases hq
  ·rw [e] at hq; cases hq; show ¬ k = p2; omega
 rw [hp2.out] at q5 hnq ⊢
 have z5 : RgAt w5 z 0 0 0 0 none 0 0 := z4.below hb5
 have y5 : OpAt w5 y ⟨0, 0, 0, 0, ⟨#[]⟩, 0, 0⟩ := RowAt.below y4 hb5
 have p15 : RgAt w5 p1 r1.id r1.a r1.b r1.c v1 r1.us.length c1 := RowAt.below p14 hb5
 have R5 := R4.below hb5
 have m5 := mu_high (m4.below hb5) hb5.size
 have G5 := gr_trans Gw4 (gr_below hb5)
 clear z3 y3 p13 m3 R3 G3 z4 y4 p14 m4 R4 Gw4
 go_upto_if 15 with (go_at_call 42; refine (once_any _ _ _ _ _ _ R5 (by omega) (by omega)).mono ?_; rintro e w6 ⟨b, rfl, R6, G6⟩)
 have z6 : RgAt w6 z 0 0 0 0 none 0 0 := RowAt.gr z5 G6 hzg
 have y6 : OpAt w6 y ⟨0, 0, 0, 0, ⟨#[]⟩, 0, 0⟩ := RowAt.gr y5 G6 hyg
 have p16 : RgAt w6 p1 r1.id r1.a r1.b r1.c v1 r1.us.length c1 := RowAt.gr p15 G6 hp1g
 have q6 : OpAt w6 p2 x := RowAt.gr q5 G6 hp2g
 have m6 := mu_high (m5.gr G6 hgl) G6.size
 have Gw6 := gr_trans G5 G6
 clear z5 y5 p15 q5 m5 R5 G5
 go_cut [] (fun wc => ∃ x : M1.OpV, OpAt wc p2 x ∧ x.s.size ≤ 4 ∧ RgAt wc z 0 0 0 0 none 0 0 ∧ OpAt wc y ⟨0, 0, 0, 0, ⟨#[]⟩, 0, 0⟩ ∧ RgAt wc p1 r1.id r1.a r1.b r1.c v1 r1.us.length c1 ∧ MU wc v1 r1.us.length c1 w1.heap.size wc.heap.size (ucell r1.us) ∧ Rdr wc g av len cap ∧ Gr g w1 wc)
 case first =>
  cases b with
  | false =>
   go_wp2_with fail
   go_meet
   exact ⟨x, q6, hx, z6, y6, p16, m6, R6, Gw6⟩
  | true =>
   go_wp2_with fail
   refine (off_any _ _ _ _ _ _ _ R6 (by omega) (by omega) (by omega)).mono ?_
   rintro e w7 ⟨k, rfl, _, _, R7, G7⟩
   have z7 : RgAt w7 z 0 0 0 0 none 0 0 := RowAt.gr z6 G7 hzg
   have y7 : OpAt w7 y ⟨0, 0, 0, 0, ⟨#[]⟩, 0, 0⟩ := RowAt.gr y6 G7 hyg
   have p17 : RgAt w7 p1 r1.id r1.a r1.b r1.c v1 r1.us.length c1 := RowAt.gr p16 G7 hp1g
   have q7 : OpAt w7 p2 x := RowAt.gr q6 G7 hp2g
   have m7 := mu_high (m6.gr G7 hgl) G7.size
   have Gw7 := gr_trans Gw6 G7
   obtain ⟨k0, k1, k2, k3, k4, k5, k6⟩ := OpAt.cells q7
   obtain ⟨f0, f1, f2, f3, f4, f5, f6⟩ := OpAt.frees q7
   have ql := q7.lt
   go_wp2_with fail
   go_meet
   have m8 : MU (w7.setCell ⟨p2, 0, none⟩ (.int .i64 k)) v1 r1.us.length c1 w1.heap.size (w7.setCell ⟨p2, 0, none⟩ (.int .i64 k)).heap.size (ucell r1.us) := by
    have e : (w7.setCell ⟨p2, 0, none⟩ (.int .i64 k)).heap.size = w7.heap.size := by simp [World.setCell]
    rw [e]; exact mu_far (p := ⟨p2, 0, none⟩) m7 hMp2 _
   exact ⟨_, op_set0 q7 k, hx, far1 z7 hp2z _, far1 y7 hp2y _, far1 p17 hp21 _, m8, rdr_new R7 hp2g hnq 0 _, gr_new Gw7 ⟨p2, 0, none⟩ hp2lo _⟩
 case rest =>
  obtain ⟨x9, q9, hx9, z9, y9, p19, m9, R9, G9⟩ := hcut
  obtain ⟨w9, hw9⟩ : ∃ v, v = wc := ⟨_, rfl⟩
  rw [← hw9] at q9 z9 y9 p19 m9 R9 G9 ⊢
  clear hw9 q6 z6 y6 p16 m6 R6 Gw6 hx x
  go_upto_if 20 with (go_at_call 42; refine (once_any _ _ _ _ _ _ R9 (by omega) (by omega)).mono ?_; rintro e wa ⟨b2, rfl, Ra, Ga⟩)
  have za : RgAt wa z 0 0 0 0 none 0 0 := RowAt.gr z9 Ga hzg
  have ya : OpAt wa y ⟨0, 0, 0, 0, ⟨#[]⟩, 0, 0⟩ := RowAt.gr y9 Ga hyg
  have pa : RgAt wa p1 r1.id r1.a r1.b r1.c v1 r1.us.length c1 := RowAt.gr p19 Ga hp1g
  have qa : OpAt wa p2 x9 := RowAt.gr q9 Ga hp2g
  have ma := mu_high (m9.gr Ga hgl) Ga.size
  have Gwa := gr_trans G9 Ga
  clear z9 y9 p19 q9 m9 R9 G9 Ga
  cases b2 with
  | true =>
   go_wp2_with fail
   refine wp_region_held_drew (S := fun w' => RgAt w' p1 r1.id r1.a r1.b r1.c v1 r1.us.length c1 ∧ OpAt w' p2 x9) (by kernel_rfl) ?_ (fun hHeld => ?_)
   ·exact ⟨RowAt.drew pa, RowAt.drew qa⟩
   refine tZ (i:=0) (v:=.agg #[.int .i64 r1.id, .int .i64 r1.a, .int .i64 r1.b, .int .i64 r1.c, .slice v1 r1.us.length c1]) rfl (.inl ⟨by rfl, ?_⟩) hHeld ?_
   ·(intro w hSw; (try dsimp only at hSw); go_simp; (obtain ⟨h0, h1, h2, h3, h4⟩ := RgAt.cells hSw.1; simp [go_sem, h0, h1, h2, h3, h4]))
   (try simp only [Act.put, zZ])
   refine tZ (i:=1) (v:=.agg #[.int .i64 x9.k, .int .i64 x9.t, .int .i64 x9.id, .int .i64 x9.pa, .string x9.s, .int .i64 x9.st, .int .i64 x9.en]) rfl (.inl ⟨by rfl, ?_⟩) hHeld ?_
   ·(intro w hSw; (try dsimp only at hSw); go_simp; (obtain ⟨h0, h1, h2, h3, h4, h5, h6⟩ := OpAt.cells hSw.2; simp [go_sem, h0, h1, h2, h3, h4, h5, h6]))
   (try simp only [Act.put, zZ])
   refine tZ (i:=2) (v:=?_) rfl (.inl ⟨by rfl, ?_⟩) hHeld ?_
   rotate_left
   ·(intro w hSw; (try dsimp only at hSw); go_simp; try (with_reducible rfl))
   (try simp only [Act.put, zZ])
   obtain ⟨wb, hwb⟩ : ∃ W, wa.drew = W := ⟨_, rfl⟩
   have zb : RgAt wb z 0 0 0 0 none 0 0 := by rw [← hwb]; exact RowAt.drew za
   have yb : OpAt wb y ⟨0, 0, 0, 0, ⟨#[]⟩, 0, 0⟩ := by rw [← hwb]; exact RowAt.drew ya
   have Rb : Rdr wb g av len cap := by rw [← hwb]; exact Ra.below (Below.refl _ wa).drew
   have mb : MU wb v1 r1.us.length c1 w1.heap.size wb.heap.size (ucell r1.us) := by rw [← hwb]; exact mu_high (ma.below (Below.refl _ wa).drew) (Below.refl wa.heap.size wa).drew.size
   have Gb : Gr g w1 wb := by rw [← hwb]; exact gr_drew Gwa
   rw [hwb] at hHeld ⊢
   clear hwb
   refine wpAnyH_ready (rs := [3]) (by kernel_rfl) (by simp) ?_
   refine AllReadyH.cons (o := _) rfl (fun K hK => ?_) AllReadyH.nil
   go_simp
   (refine (off_any _ _ _ _ _ _ _ Rb (by omega) (by omega) (by omega)).mono ?_; rintro e wc ⟨now, rfl, _, _, Rc, Gc⟩; go_wp2_with fail)
   refine hK.out _ _ ?_ (fun hHeld2 => ?_)
   ·exact ⟨RowAt.gr hHeld.1 Gc hp1g, RowAt.gr hHeld.2 Gc hp2g⟩
   clear hK K hHeld
   have hHeld := hHeld2
   clear hHeld2
   (try simp only [Act.put, zZ])
   have zc : RgAt wc z 0 0 0 0 none 0 0 := RowAt.gr zb Gc hzg
   have yc : OpAt wc y ⟨0, 0, 0, 0, ⟨#[]⟩, 0, 0⟩ := RowAt.gr yb Gc hyg
   have mc := mu_high (mb.gr Gc hgl) Gc.size
   have Gwc := gr_trans Gb Gc
   have Bc : Below w.heap.size w wc := B1.trans (gr_to Gwc B1.size hgw)
   obtain ⟨a0, a1, a2, a3, a4⟩ := zc.cells
   obtain ⟨b0, b1, b2, b3, b4⟩ := zc.frees
   have zl := zc.lt
   refine wpAnyH_ready (rs := [4]) (by kernel_rfl) (by simp) ?_
   refine AllReadyH.cons (o := _) rfl (fun K hK => ?_) AllReadyH.nil
   go_simp
   skip
   refine hK.out _ _ ?_ (fun hHeld2 => ?_)
   ·exact ⟨far5 hHeld.1 (fun e => hp1z e.symm) _ _ _ _ _, far5 hHeld.2 (fun e => hp2z e.symm) _ _ _ _ _⟩
   clear hK K hHeld
   have hHeld := hHeld2
   clear hHeld2
   (try simp only [Act.put, zZ])
   have zd : RgAt (((((wc.setCell ⟨z, 0, none⟩ (.int .i64 r1.id)).setCell ⟨z, 1, none⟩ (.int .i64 r1.a)).setCell ⟨z, 2, none⟩ (.int .i64 r1.b)).setCell ⟨z, 3, none⟩ (.int .i64 r1.c)).setCell ⟨z, 4, none⟩ (.slice v1 r1.us.length c1)) z r1.id r1.a r1.b r1.c v1 r1.us.length c1 := zc.put r1.id r1.a r1.b r1.c v1 r1.us.length c1
   have yd : OpAt (((((wc.setCell ⟨z, 0, none⟩ (.int .i64 r1.id)).setCell ⟨z, 1, none⟩ (.int .i64 r1.a)).setCell ⟨z, 2, none⟩ (.int .i64 r1.b)).setCell ⟨z, 3, none⟩ (.int .i64 r1.c)).setCell ⟨z, 4, none⟩ (.slice v1 r1.us.length c1)) y ⟨0, 0, 0, 0, ⟨#[]⟩, 0, 0⟩ := far5 yc hzy _ _ _ _ _
   have Bd : Below w.heap.size w (((((wc.setCell ⟨z, 0, none⟩ (.int .i64 r1.id)).setCell ⟨z, 1, none⟩ (.int .i64 r1.a)).setCell ⟨z, 2, none⟩ (.int .i64 r1.b)).setCell ⟨z, 3, none⟩ (.int .i64 r1.c)).setCell ⟨z, 4, none⟩ (.slice v1 r1.us.length c1)) := bel_put5 Bc hzw _ _ _ _ _
   have md : MU (((((wc.setCell ⟨z, 0, none⟩ (.int .i64 r1.id)).setCell ⟨z, 1, none⟩ (.int .i64 r1.a)).setCell ⟨z, 2, none⟩ (.int .i64 r1.b)).setCell ⟨z, 3, none⟩ (.int .i64 r1.c)).setCell ⟨z, 4, none⟩ (.slice v1 r1.us.length c1)) v1 r1.us.length c1 w1.heap.size (((((wc.setCell ⟨z, 0, none⟩ (.int .i64 r1.id)).setCell ⟨z, 1, none⟩ (.int .i64 r1.a)).setCell ⟨z, 2, none⟩ (.int .i64 r1.b)).setCell ⟨z, 3, none⟩ (.int .i64 r1.c)).setCell ⟨z, 4, none⟩ (.slice v1 r1.us.length c1)).heap.size (ucell r1.us) := mu_put5 mc (fun q hq => mu_block mc (by omega) q hq) _ _ _ _ _
   clear a0 a1 a2 a3 a4 b0 b1 b2 b3 b4
   obtain ⟨wd, hwd⟩ : ∃ W, (((((wc.setCell ⟨z, 0, none⟩ (.int .i64 r1.id)).setCell ⟨z, 1, none⟩ (.int .i64 r1.a)).setCell ⟨z, 2, none⟩ (.int .i64 r1.b)).setCell ⟨z, 3, none⟩ (.int .i64 r1.c)).setCell ⟨z, 4, none⟩ (.slice v1 r1.us.length c1)) = W := ⟨_, rfl⟩
   rw [hwd] at hHeld zd yd Bd md ⊢
   clear hwd
   obtain ⟨a0, a1, a2, a3, a4, a5, a6⟩ := OpAt.cells yd
   obtain ⟨b0, b1, b2, b3, b4, b5, b6⟩ := OpAt.frees yd
   have yl := yd.lt
   refine wpAnyH_ready (rs := [5]) (by kernel_rfl) (by simp) ?_
   refine AllReadyH.cons (o := _) rfl (fun K hK => ?_) AllReadyH.nil
   go_simp
   skip
   refine hK.out _ _ ?_ (fun hHeld2 => ?_)
   ·exact ⟨far7 hHeld.1 (fun e => hp1y e.symm) _ _ _ _ _ _ _, far7 hHeld.2 (fun e => hp2y e.symm) _ _ _ _ _ _ _⟩
   clear hK K hHeld
   have hHeld := hHeld2
   clear hHeld2
   (try simp only [Act.put, zZ])
   refine tZ (i:=6) (v:=?_) rfl (.inl ⟨by rfl, ?_⟩) hHeld ?_
   rotate_left
   ·(intro w hSw; (try dsimp only at hSw); go_simp; try (with_reducible rfl))
   (try simp only [Act.put, zZ])
   refine wpAnyH_done (by kernel_rfl) ?_ _
   have yz : OpAt (((((((wd.setCell ⟨y, 0, none⟩ (.int .i64 x9.k)).setCell ⟨y, 1, none⟩ (.int .i64 x9.t)).setCell ⟨y, 2, none⟩ (.int .i64 x9.id)).setCell ⟨y, 3, none⟩ (.int .i64 x9.pa)).setCell ⟨y, 4, none⟩ (.string x9.s)).setCell ⟨y, 5, none⟩ (.int .i64 x9.st)).setCell ⟨y, 6, none⟩ (.int .i64 x9.en)) y x9 := op_set7 yd x9
   have zz : RgAt (((((((wd.setCell ⟨y, 0, none⟩ (.int .i64 x9.k)).setCell ⟨y, 1, none⟩ (.int .i64 x9.t)).setCell ⟨y, 2, none⟩ (.int .i64 x9.id)).setCell ⟨y, 3, none⟩ (.int .i64 x9.pa)).setCell ⟨y, 4, none⟩ (.string x9.s)).setCell ⟨y, 5, none⟩ (.int .i64 x9.st)).setCell ⟨y, 6, none⟩ (.int .i64 x9.en)) z r1.id r1.a r1.b r1.c v1 r1.us.length c1 := far7 zd hyz _ _ _ _ _ _ _
   have Bz : Below w.heap.size w (((((((wd.setCell ⟨y, 0, none⟩ (.int .i64 x9.k)).setCell ⟨y, 1, none⟩ (.int .i64 x9.t)).setCell ⟨y, 2, none⟩ (.int .i64 x9.id)).setCell ⟨y, 3, none⟩ (.int .i64 x9.pa)).setCell ⟨y, 4, none⟩ (.string x9.s)).setCell ⟨y, 5, none⟩ (.int .i64 x9.st)).setCell ⟨y, 6, none⟩ (.int .i64 x9.en)) := bel_put7 Bd hyw _ _ _ _ _ _ _
   have mz : MU (((((((wd.setCell ⟨y, 0, none⟩ (.int .i64 x9.k)).setCell ⟨y, 1, none⟩ (.int .i64 x9.t)).setCell ⟨y, 2, none⟩ (.int .i64 x9.id)).setCell ⟨y, 3, none⟩ (.int .i64 x9.pa)).setCell ⟨y, 4, none⟩ (.string x9.s)).setCell ⟨y, 5, none⟩ (.int .i64 x9.st)).setCell ⟨y, 6, none⟩ (.int .i64 x9.en)) v1 r1.us.length c1 w1.heap.size (((((((wd.setCell ⟨y, 0, none⟩ (.int .i64 x9.k)).setCell ⟨y, 1, none⟩ (.int .i64 x9.t)).setCell ⟨y, 2, none⟩ (.int .i64 x9.id)).setCell ⟨y, 3, none⟩ (.int .i64 x9.pa)).setCell ⟨y, 4, none⟩ (.string x9.s)).setCell ⟨y, 5, none⟩ (.int .i64 x9.st)).setCell ⟨y, 6, none⟩ (.int .i64 x9.en)).heap.size (ucell r1.us) := mu_put7 md (by omega) _ _ _ _ _ _ _
   clear hHeld a0 a1 a2 a3 a4 a5 a6 b0 b1 b2 b3 b4 b5 b6
   go_wp2_with fail
   obtain ⟨wz, hwz⟩ : ∃ W, (((((((wd.setCell ⟨y, 0, none⟩ (.int .i64 x9.k)).setCell ⟨y, 1, none⟩ (.int .i64 x9.t)).setCell ⟨y, 2, none⟩ (.int .i64 x9.id)).setCell ⟨y, 3, none⟩ (.int .i64 x9.pa)).setCell ⟨y, 4, none⟩ (.string x9.s)).setCell ⟨y, 5, none⟩ (.int .i64 x9.st)).setCell ⟨y, 6, none⟩ (.int .i64 x9.en)) = W := ⟨_, rfl⟩
   rw [hwz] at yz zz Bz mz ⊢
   clear hwz
   obtain ⟨f0, f1, f2, f3, f4⟩ := zz.cells
   obtain ⟨t0, t1, t2, t3, t4, t5, t6⟩ := OpAt.cells yz
   refine bodyPost_ret (v := .tuple #[.agg #[.int .i64 r1.id, .int .i64 r1.a, .int .i64 r1.b, .int .i64 r1.c, .slice v1 r1.us.length c1], .agg #[.int .i64 x9.k, .int .i64 x9.t, .int .i64 x9.id, .int .i64 x9.pa, .string x9.s, .int .i64 x9.st, .int .i64 x9.en], .int .i64 now]) (by simp [results, Tryz.results9, go_sem, f0, f1, f2, f3, f4, t0, t1, t2, t3, t4, t5, t6]) rfl ?_
   exact ⟨r1, v1, c1, x9, now, rfl, mu_low mz B1.size, hset1, hx9, Bz⟩
  | false =>
   go_wp2_with fail
   refine wp_region_held_drew (S := fun w' => RgAt w' p1 r1.id r1.a r1.b r1.c v1 r1.us.length c1 ∧ OpAt w' p2 x9) (by kernel_rfl) ?_ (fun hHeld => ?_)
   ·exact ⟨RowAt.drew pa, RowAt.drew qa⟩
   refine tZ (i:=0) (v:=.agg #[.int .i64 r1.id, .int .i64 r1.a, .int .i64 r1.b, .int .i64 r1.c, .slice v1 r1.us.length c1]) rfl (.inl ⟨by rfl, ?_⟩) hHeld ?_
   ·(intro w hSw; (try dsimp only at hSw); go_simp; (obtain ⟨h0, h1, h2, h3, h4⟩ := RgAt.cells hSw.1; simp [go_sem, h0, h1, h2, h3, h4]))
   (try simp only [Act.put, zZ])
   refine tZ (i:=1) (v:=.agg #[.int .i64 x9.k, .int .i64 x9.t, .int .i64 x9.id, .int .i64 x9.pa, .string x9.s, .int .i64 x9.st, .int .i64 x9.en]) rfl (.inl ⟨by rfl, ?_⟩) hHeld ?_
   ·(intro w hSw; (try dsimp only at hSw); go_simp; (obtain ⟨h0, h1, h2, h3, h4, h5, h6⟩ := OpAt.cells hSw.2; simp [go_sem, h0, h1, h2, h3, h4, h5, h6]))
   (try simp only [Act.put, zZ])
   refine tZ (i:=2) (v:=?_) rfl (.inl ⟨by rfl, ?_⟩) hHeld ?_
   rotate_left
   ·(intro w hSw; (try dsimp only at hSw); go_simp; try (with_reducible rfl))
   (try simp only [Act.put, zZ])
   obtain ⟨wb, hwb⟩ : ∃ W, wa.drew = W := ⟨_, rfl⟩
   have zb : RgAt wb z 0 0 0 0 none 0 0 := by rw [← hwb]; exact RowAt.drew za
   have yb : OpAt wb y ⟨0, 0, 0, 0, ⟨#[]⟩, 0, 0⟩ := by rw [← hwb]; exact RowAt.drew ya
   have Rb : Rdr wb g av len cap := by rw [← hwb]; exact Ra.below (Below.refl _ wa).drew
   have mb : MU wb v1 r1.us.length c1 w1.heap.size wb.heap.size (ucell r1.us) := by rw [← hwb]; exact mu_high (ma.below (Below.refl _ wa).drew) (Below.refl wa.heap.size wa).drew.size
   have Gb : Gr g w1 wb := by rw [← hwb]; exact gr_drew Gwa
   rw [hwb] at hHeld ⊢
   clear hwb
   refine wpAnyH_ready (rs := [3]) (by kernel_rfl) (by simp) ?_
   refine AllReadyH.cons (o := _) rfl (fun K hK => ?_) AllReadyH.nil
   go_simp
   (refine (below_any _ _ _ _ _ _ Rb (by omega) (by omega)).mono ?_; rintro e wc ⟨now, rfl, hn0, hn1, Rc, Gc⟩; go_wp2_with fail)
   refine hK.out _ _ ?_ (fun hHeld2 => ?_)
   ·exact ⟨RowAt.gr hHeld.1 Gc hp1g, RowAt.gr hHeld.2 Gc hp2g⟩
   clear hK K hHeld
   have hHeld := hHeld2
   clear hHeld2
   (try simp only [Act.put, zZ])
   have zc : RgAt wc z 0 0 0 0 none 0 0 := RowAt.gr zb Gc hzg
   have yc : OpAt wc y ⟨0, 0, 0, 0, ⟨#[]⟩, 0, 0⟩ := RowAt.gr yb Gc hyg
   have mc := mu_high (mb.gr Gc hgl) Gc.size
   have Gwc := gr_trans Gb Gc
   have Bc : Below w.heap.size w wc := B1.trans (gr_to Gwc B1.size hgw)
   obtain ⟨a0, a1, a2, a3, a4⟩ := zc.cells
   obtain ⟨b0, b1, b2, b3, b4⟩ := zc.frees
   have zl := zc.lt
   refine wpAnyH_ready (rs := [4]) (by kernel_rfl) (by simp) ?_
   refine AllReadyH.cons (o := _) rfl (fun K hK => ?_) AllReadyH.nil
   go_simp
   skip
   refine hK.out _ _ ?_ (fun hHeld2 => ?_)
   ·exact ⟨far5 hHeld.1 (fun e => hp1z e.symm) _ _ _ _ _, far5 hHeld.2 (fun e => hp2z e.symm) _ _ _ _ _⟩
   clear hK K hHeld
   have hHeld := hHeld2
   clear hHeld2
   (try simp only [Act.put, zZ])
   have zd : RgAt (((((wc.setCell ⟨z, 0, none⟩ (.int .i64 r1.id)).setCell ⟨z, 1, none⟩ (.int .i64 r1.a)).setCell ⟨z, 2, none⟩ (.int .i64 r1.b)).setCell ⟨z, 3, none⟩ (.int .i64 r1.c)).setCell ⟨z, 4, none⟩ (.slice v1 r1.us.length c1)) z r1.id r1.a r1.b r1.c v1 r1.us.length c1 := zc.put r1.id r1.a r1.b r1.c v1 r1.us.length c1
   have yd : OpAt (((((wc.setCell ⟨z, 0, none⟩ (.int .i64 r1.id)).setCell ⟨z, 1, none⟩ (.int .i64 r1.a)).setCell ⟨z, 2, none⟩ (.int .i64 r1.b)).setCell ⟨z, 3, none⟩ (.int .i64 r1.c)).setCell ⟨z, 4, none⟩ (.slice v1 r1.us.length c1)) y ⟨0, 0, 0, 0, ⟨#[]⟩, 0, 0⟩ := far5 yc hzy _ _ _ _ _
   have Bd : Below w.heap.size w (((((wc.setCell ⟨z, 0, none⟩ (.int .i64 r1.id)).setCell ⟨z, 1, none⟩ (.int .i64 r1.a)).setCell ⟨z, 2, none⟩ (.int .i64 r1.b)).setCell ⟨z, 3, none⟩ (.int .i64 r1.c)).setCell ⟨z, 4, none⟩ (.slice v1 r1.us.length c1)) := bel_put5 Bc hzw _ _ _ _ _
   have md : MU (((((wc.setCell ⟨z, 0, none⟩ (.int .i64 r1.id)).setCell ⟨z, 1, none⟩ (.int .i64 r1.a)).setCell ⟨z, 2, none⟩ (.int .i64 r1.b)).setCell ⟨z, 3, none⟩ (.int .i64 r1.c)).setCell ⟨z, 4, none⟩ (.slice v1 r1.us.length c1)) v1 r1.us.length c1 w1.heap.size (((((wc.setCell ⟨z, 0, none⟩ (.int .i64 r1.id)).setCell ⟨z, 1, none⟩ (.int .i64 r1.a)).setCell ⟨z, 2, none⟩ (.int .i64 r1.b)).setCell ⟨z, 3, none⟩ (.int .i64 r1.c)).setCell ⟨z, 4, none⟩ (.slice v1 r1.us.length c1)).heap.size (ucell r1.us) := mu_put5 mc (fun q hq => mu_block mc (by omega) q hq) _ _ _ _ _
   clear a0 a1 a2 a3 a4 b0 b1 b2 b3 b4
   obtain ⟨wd, hwd⟩ : ∃ W, (((((wc.setCell ⟨z, 0, none⟩ (.int .i64 r1.id)).setCell ⟨z, 1, none⟩ (.int .i64 r1.a)).setCell ⟨z, 2, none⟩ (.int .i64 r1.b)).setCell ⟨z, 3, none⟩ (.int .i64 r1.c)).setCell ⟨z, 4, none⟩ (.slice v1 r1.us.length c1)) = W := ⟨_, rfl⟩
   rw [hwd] at hHeld zd yd Bd md ⊢
   clear hwd
   obtain ⟨a0, a1, a2, a3, a4, a5, a6⟩ := OpAt.cells yd
   obtain ⟨b0, b1, b2, b3, b4, b5, b6⟩ := OpAt.frees yd
   have yl := yd.lt
   refine wpAnyH_ready (rs := [5]) (by kernel_rfl) (by simp) ?_
   refine AllReadyH.cons (o := _) rfl (fun K hK => ?_) AllReadyH.nil
   go_simp
   skip
   refine hK.out _ _ ?_ (fun hHeld2 => ?_)
   ·exact ⟨far7 hHeld.1 (fun e => hp1y e.symm) _ _ _ _ _ _ _, far7 hHeld.2 (fun e => hp2y e.symm) _ _ _ _ _ _ _⟩
   clear hK K hHeld
   have hHeld := hHeld2
   clear hHeld2
   (try simp only [Act.put, zZ])
   refine tZ (i:=6) (v:=?_) rfl (.inl ⟨by rfl, ?_⟩) hHeld ?_
   rotate_left
   ·(intro w hSw; (try dsimp only at hSw); go_simp; try (with_reducible rfl))
   (try simp only [Act.put, zZ])
   refine wpAnyH_done (by kernel_rfl) ?_ _
   have yz : OpAt (((((((wd.setCell ⟨y, 0, none⟩ (.int .i64 x9.k)).setCell ⟨y, 1, none⟩ (.int .i64 x9.t)).setCell ⟨y, 2, none⟩ (.int .i64 x9.id)).setCell ⟨y, 3, none⟩ (.int .i64 x9.pa)).setCell ⟨y, 4, none⟩ (.string x9.s)).setCell ⟨y, 5, none⟩ (.int .i64 x9.st)).setCell ⟨y, 6, none⟩ (.int .i64 x9.en)) y x9 := op_set7 yd x9
   have zz : RgAt (((((((wd.setCell ⟨y, 0, none⟩ (.int .i64 x9.k)).setCell ⟨y, 1, none⟩ (.int .i64 x9.t)).setCell ⟨y, 2, none⟩ (.int .i64 x9.id)).setCell ⟨y, 3, none⟩ (.int .i64 x9.pa)).setCell ⟨y, 4, none⟩ (.string x9.s)).setCell ⟨y, 5, none⟩ (.int .i64 x9.st)).setCell ⟨y, 6, none⟩ (.int .i64 x9.en)) z r1.id r1.a r1.b r1.c v1 r1.us.length c1 := far7 zd hyz _ _ _ _ _ _ _
   have Bz : Below w.heap.size w (((((((wd.setCell ⟨y, 0, none⟩ (.int .i64 x9.k)).setCell ⟨y, 1, none⟩ (.int .i64 x9.t)).setCell ⟨y, 2, none⟩ (.int .i64 x9.id)).setCell ⟨y, 3, none⟩ (.int .i64 x9.pa)).setCell ⟨y, 4, none⟩ (.string x9.s)).setCell ⟨y, 5, none⟩ (.int .i64 x9.st)).setCell ⟨y, 6, none⟩ (.int .i64 x9.en)) := bel_put7 Bd hyw _ _ _ _ _ _ _
   have mz : MU (((((((wd.setCell ⟨y, 0, none⟩ (.int .i64 x9.k)).setCell ⟨y, 1, none⟩ (.int .i64 x9.t)).setCell ⟨y, 2, none⟩ (.int .i64 x9.id)).setCell ⟨y, 3, none⟩ (.int .i64 x9.pa)).setCell ⟨y, 4, none⟩ (.string x9.s)).setCell ⟨y, 5, none⟩ (.int .i64 x9.st)).setCell ⟨y, 6, none⟩ (.int .i64 x9.en)) v1 r1.us.length c1 w1.heap.size (((((((wd.setCell ⟨y, 0, none⟩ (.int .i64 x9.k)).setCell ⟨y, 1, none⟩ (.int .i64 x9.t)).setCell ⟨y, 2, none⟩ (.int .i64 x9.id)).setCell ⟨y, 3, none⟩ (.int .i64 x9.pa)).setCell ⟨y, 4, none⟩ (.string x9.s)).setCell ⟨y, 5, none⟩ (.int .i64 x9.st)).setCell ⟨y, 6, none⟩ (.int .i64 x9.en)).heap.size (ucell r1.us) := mu_put7 md (by omega) _ _ _ _ _ _ _
   clear hHeld a0 a1 a2 a3 a4 a5 a6 b0 b1 b2 b3 b4 b5 b6
   go_wp2_with fail
   obtain ⟨wz, hwz⟩ : ∃ W, (((((((wd.setCell ⟨y, 0, none⟩ (.int .i64 x9.k)).setCell ⟨y, 1, none⟩ (.int .i64 x9.t)).setCell ⟨y, 2, none⟩ (.int .i64 x9.id)).setCell ⟨y, 3, none⟩ (.int .i64 x9.pa)).setCell ⟨y, 4, none⟩ (.string x9.s)).setCell ⟨y, 5, none⟩ (.int .i64 x9.st)).setCell ⟨y, 6, none⟩ (.int .i64 x9.en)) = W := ⟨_, rfl⟩
   rw [hwz] at yz zz Bz mz ⊢
   clear hwz
   obtain ⟨f0, f1, f2, f3, f4⟩ := zz.cells
   obtain ⟨t0, t1, t2, t3, t4, t5, t6⟩ := OpAt.cells yz
   refine bodyPost_ret (v := .tuple #[.agg #[.int .i64 r1.id, .int .i64 r1.a, .int .i64 r1.b, .int .i64 r1.c, .slice v1 r1.us.length c1], .agg #[.int .i64 x9.k, .int .i64 x9.t, .int .i64 x9.id, .int .i64 x9.pa, .string x9.s, .int .i64 x9.st, .int .i64 x9.en], .int .i64 now]) (by simp [results, Tryz.results9, go_sem, f0, f1, f2, f3, f4, t0, t1, t2, t3, t4, t5, t6]) rfl ?_
   exact ⟨r1, v1, c1, x9, now, rfl, mu_low mz B1.size, hset1, hx9, Bz⟩

end Go.Proofs.YtccendmoeelniaaGreatDoor
