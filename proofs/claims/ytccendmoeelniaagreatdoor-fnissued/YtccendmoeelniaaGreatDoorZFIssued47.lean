/-
  Texts of one proof, joined: Rg1.
-/
import Derived.Test.YtccendmoeelniaaGreatDoorZFIssued27
import Derived.Test.YtccendmoeelniaaGreatDoorZFIssued43
import Derived.Test.YtccendmoeelniaaGreatDoorZFIssued45
import Derived.Test.YtccendmoeelniaaGreatDoorZFIssued46
namespace Go.Proofs.YtccendmoeelniaaGreatDoor
open Go.ChangeShapes Go.WideShapes Go.ChangeAt Go.RowKit
set_option linter.unusedSimpArgs false
set_option linter.unusedVariables false
theorem set_short2 {us : List M1.Upd} (h : M1.setOk us = true) : ∀ i, i < us.length → (M1.up us i).s.size ≤ maxLen := fun i hi => by
 have := M1.ok_txt (M1.okAt_ok (M1.setOk_all h i hi))
 unfold maxLen; omega

theorem set_Short {us : List M1.Upd} (h : M1.setOk us = true) : Short us := fun x hx => by
 obtain ⟨i, hi, rfl⟩ := M1.mem_up hx
 have := M1.ok_txt (M1.okAt_ok (M1.setOk_all h i hi))
 omega

theorem mv_gr {w w' : World} {av : Option Addr} {n cap lo hi g : Nat} {f : Nat → Value} (h : MV w av n cap lo hi f) (hg : Gr g w w') (hb : g < lo) : MV w' av n cap lo hi f :=
 ⟨h.1, h.2.1, h.2.2.imp (fun h => h) fun ⟨k, e, h1, h2, r⟩ => ⟨k, e, h1, h2, r.gr hg (by omega)⟩⟩

theorem mu_block {w : World} {av : Option Addr} {n cap lo hi z : Nat} {f : Nat → Value} (h : MU w av n cap lo hi f) (hz : z < lo) : ∀ q, av = some q → ¬ q.block = z := fun q hq => by
 rcases h.2.2 with ⟨_, e⟩ | ⟨g, e, h1, h2, _⟩
 ·rw [e] at hq; cases hq
 ·rw [e] at hq; cases hq; show ¬ g = z; omega

theorem rdr_put5 {w : World} {g : Nat} {av : Option Addr} {len cap : Nat} (h : Rdr w g av len cap) {z : Nat} (hg : ¬ z = g) (hk : len = 0 ∨ ∃ b off, av = some ⟨b, off, none⟩ ∧ ¬ z = b) (v0 v1 v2 v3 v4 : Value) : Rdr (((((w.setCell ⟨z, 0, none⟩ (v0)).setCell ⟨z, 1, none⟩ (v1)).setCell ⟨z, 2, none⟩ (v2)).setCell ⟨z, 3, none⟩ (v3)).setCell ⟨z, 4, none⟩ (v4)) g av len cap :=
 rdr_new (rdr_new (rdr_new (rdr_new (rdr_new h hg hk 0 v0) hg hk 1 v1) hg hk 2 v2) hg hk 3 v3) hg hk 4 v4

theorem gr_put5 {a w : World} {g z : Nat} (h : Gr g a w) (hz : a.heap.size ≤ z) (v0 v1 v2 v3 v4 : Value) : Gr g a (((((w.setCell ⟨z, 0, none⟩ (v0)).setCell ⟨z, 1, none⟩ (v1)).setCell ⟨z, 2, none⟩ (v2)).setCell ⟨z, 3, none⟩ (v3)).setCell ⟨z, 4, none⟩ (v4)) :=
 gr_new (gr_new (gr_new (gr_new (gr_new h ⟨z, 0, none⟩ hz v0) ⟨z, 1, none⟩ hz v1) ⟨z, 2, none⟩ hz v2) ⟨z, 3, none⟩ hz v3) ⟨z, 4, none⟩ hz v4

theorem rg_wall {w : World} {p : Nat} {id a b c : Int} {av : Option Addr} {n cn : Nat} (h : RgAt w p id a b c av n cn) (x : Int) : RgAt (w.setCell ⟨p, 1, none⟩ (.int .i64 x)) p id x b c av n cn :=
 RowAt.same (h.set (o := 1) (by omega) (.int .i64 x)) fun o ho => by
  match o, ho with
  | 0, _ => rfl
  | 1, _ => rfl
  | 2, _ => rfl
  | 3, _ => rfl
  | 4, _ => rfl

theorem rg_count {w : World} {p : Nat} {id a b c : Int} {av : Option Addr} {n cn : Nat} (h : RgAt w p id a b c av n cn) (x : Int) : RgAt (w.setCell ⟨p, 2, none⟩ (.int .i64 x)) p id a x c av n cn :=
 RowAt.same (h.set (o := 2) (by omega) (.int .i64 x)) fun o ho => by
  match o, ho with
  | 0, _ => rfl
  | 1, _ => rfl
  | 2, _ => rfl
  | 3, _ => rfl
  | 4, _ => rfl

theorem mu_one {w : World} {av : Option Addr} {n cap lo : Nat} {z o : Nat} {f : Nat → Value} (h : MU w av n cap lo w.heap.size f) (hz : z < lo) (v : Value) : MU (w.setCell ⟨z, o, none⟩ v) av n cap lo (w.setCell ⟨z, o, none⟩ v).heap.size f := by
 have e : (w.setCell ⟨z, o, none⟩ v).heap.size = w.heap.size := by simp [World.setCell]
 rw [e]; exact mu_far (p := ⟨z, o, none⟩) h (fun q hq => mu_block h hz q hq) v

def RgO (w : World) (p lo : Nat) (r : M1.Rg) (v : Option Addr) (c : Nat) : Prop := RgAt w p r.id r.a r.b r.c v r.us.length c ∧ MU w v r.us.length c lo w.heap.size (ucell r.us) ∧ M1.setOk r.us = true

theorem RgO.gr {w w' : World} {p lo g : Nat} {r : M1.Rg} {v : Option Addr} {c : Nat} (h : RgO w p lo r v c) (hG : Gr g w w') (hp : p ≠ g) (hlo : g < lo) : RgO w' p lo r v c :=
 ⟨RowAt.gr h.1 hG hp, mu_high (h.2.1.gr hG hlo) hG.size, h.2.2⟩

theorem RgO.below {w w' : World} {p lo : Nat} {r : M1.Rg} {v : Option Addr} {c : Nat} (h : RgO w p lo r v c) (hb : Below w.heap.size w w') : RgO w' p lo r v c :=
 ⟨RowAt.below h.1 hb, mu_high (h.2.1.below hb) hb.size, h.2.2⟩

theorem RgO.drew {w : World} {p lo : Nat} {r : M1.Rg} {v : Option Addr} {c : Nat} (h : RgO w p lo r v c) : RgO w.drew p lo r v c := h.below (Below.refl _ w).drew

theorem RgO.upds {w : World} {p lo : Nat} {r : M1.Rg} {v : Option Addr} {c : Nat} (h : RgO w p lo r v c) : IsUpds w v r.us.length c r.us := h.2.1.upds rfl (set_short2 h.2.2)

theorem RgO.put {w : World} {p lo : Nat} {r : M1.Rg} {v : Option Addr} {c : Nat} (h : RgAt w p r.id r.a r.b r.c v r.us.length c) (r2 : M1.Rg) (v2 : Option Addr) (c2 : Nat) (hm : MU w v2 r2.us.length c2 lo w.heap.size (ucell r2.us)) (hs : M1.setOk r2.us = true) (hp : p < lo) : RgO (((((w.setCell ⟨p, 0, none⟩ (.int .i64 r2.id)).setCell ⟨p, 1, none⟩ (.int .i64 r2.a)).setCell ⟨p, 2, none⟩ (.int .i64 r2.b)).setCell ⟨p, 3, none⟩ (.int .i64 r2.c)).setCell ⟨p, 4, none⟩ (.slice v2 r2.us.length c2)) p lo r2 v2 c2 :=
 ⟨RgAt.put h r2.id r2.a r2.b r2.c v2 r2.us.length c2, mu_put5 hm (fun q hq => mu_block hm hp q hq) _ _ _ _ _, hs⟩

theorem RgO.far {w : World} {p lo z : Nat} {r : M1.Rg} {v : Option Addr} {c : Nat} (h : RgO w p lo r v c) (hz : ¬ z = p) (hl : z < lo) (v0 v1 v2 v3 v4 : Value) : RgO (((((w.setCell ⟨z, 0, none⟩ (v0)).setCell ⟨z, 1, none⟩ (v1)).setCell ⟨z, 2, none⟩ (v2)).setCell ⟨z, 3, none⟩ (v3)).setCell ⟨z, 4, none⟩ (v4)) p lo r v c :=
 ⟨far5 h.1 hz _ _ _ _ _, mu_put5 h.2.1 (fun q hq => mu_block h.2.1 hl q hq) _ _ _ _ _, h.2.2⟩

def RgS (w w' : World) (e : Ending) : Prop := ∃ (r : M1.Rg) (v : Option Addr) (c : Nat), e = .returned (.agg #[.int .i64 r.id, .int .i64 r.a, .int .i64 r.b, .int .i64 r.c, .slice v r.us.length c]) ∧ MU w' v r.us.length c w.heap.size w'.heap.size (ucell r.us) ∧ M1.setOk r.us = true

set_option maxHeartbeats 40000000 in
set_option maxRecDepth 100000 in
theorem region_any (g : Nat) (av : Option Addr) (len cap : Nat) (most : Int) (w : World) (h : Rdr w g av len cap) (hm0 : 0 ≤ most) (hm1 : most ≤ 1000) :
  Calls Tryz.prog 40 #[.pointer (some ⟨g, 0, none⟩), .int .i64 most] w fun e w' => RgS w w' e ∧ Rdr w' g av len cap ∧ Gr g w w' := by
 have hg := h.lt
 have hA : Below w.heap.size w (w.alloc (.cells #[.int .i64 0, .int .i64 0, .int .i64 0, .int .i64 0, .slice none 0 0] 28)) := (Below.refl _ _).alloc (Nat.le_refl _) _
 have z0 : RgAt (w.alloc (.cells #[.int .i64 0, .int .i64 0, .int .i64 0, .int .i64 0, .slice none 0 0] 28)) w.heap.size 0 0 0 0 none 0 0 := rg_new w 0 0 0 0 none 0 0 28
 have hnz : len = 0 ∨ ∃ b off, av = some ⟨b, off, none⟩ ∧ ¬ w.heap.size = b := h.old (Nat.le_refl _)
 go_enter Tryz.func40, Tryz.ntmps40
 go_upto_region 1 with fail
 obtain ⟨W0, hW0⟩ : ∃ W, w.alloc (.cells #[.int .i64 0, .int .i64 0, .int .i64 0, .int .i64 0, .slice none 0 0] 28) = W := ⟨_, rfl⟩
 rw [hW0] at hA z0 ⊢
 clear hW0
 obtain ⟨z, hz⟩ : ∃ z, Hid (w.heap.size = z) := ⟨_, rfl⟩
 have hzw : w.heap.size ≤ z := by have := hz.out; omega
 have hzg : ¬ z = g := by have := hz.out; omega
 rw [hz.out] at z0 hnz ⊢
 have R0 := h.below hA
 have zl0 := z0.lt
 go_wp2_with fail
 refine (below_any _ _ _ _ _ _ R0 (by omega) (by omega)).mono ?_
 rintro e w1 ⟨x1, rfl, y1, q1, R1, G1⟩
 have z1 : RgAt w1 z 0 0 0 0 none 0 0 := RowAt.gr z0 G1 hzg
 have hs1 := G1.size
 obtain ⟨ia, hia⟩ : ∃ i, Hid ((if M1.inB (1 + x1) 1 5 = true then 1 + x1 else 0) = i) := ⟨_, rfl⟩
 have ia1 : 0 ≤ ia := by have := hia.out; split at this <;> omega
 have ia2 : ia ≤ 10 := by have := hia.out; split at this <;> omega
 go_wp2_with fail
 refine (regionNew_spec _ _).mono ?_
 rw [hia.out]
 rintro e w2 ⟨rfl, hb2⟩
 have z2 : RgAt w2 z 0 0 0 0 none 0 0 := z1.below hb2
 have R2 := R1.below hb2
 have G2 : Gr g w w2 := gr_trans (gr_below hA) (gr_trans G1 (gr_below hb2))
 have hnx : len = 0 ∨ ∃ b off, av = some ⟨b, off, none⟩ ∧ ¬ w2.heap.size = b := R2.old (Nat.le_refl _)
 have hb3 : Below w2.heap.size w2 (w2.alloc (.cells #[.int .i64 ia, .int .i64 0, .int .i64 0, .int .i64 ia, .slice none 0 0] 28)) := (Below.refl _ _).alloc (Nat.le_refl _) _
 have x3 := rg_new w2 ia 0 0 ia none 0 0 28
 go_upto_region 2 with fail
 obtain ⟨W3, hW3⟩ : ∃ W, w2.alloc (.cells #[.int .i64 ia, .int .i64 0, .int .i64 0, .int .i64 ia, .slice none 0 0] 28) = W := ⟨_, rfl⟩
 rw [hW3] at hb3 x3 ⊢
 clear hW3
 have hs2 := G2.size
 have hsb2 := hb2.size
 obtain ⟨px, hpx⟩ : ∃ z, Hid (w2.heap.size = z) := ⟨_, rfl⟩
 have hxw : w.heap.size ≤ px := by have := hpx.out; omega
 have hxg : ¬ px = g := by have := hpx.out; omega
 have hxz : ¬ px = z := by have := hpx.out; omega
 rw [hpx.out] at x3 hnx ⊢
 have z3 : RgAt W3 z 0 0 0 0 none 0 0 := z2.below hb3
 have R3 := R2.below hb3
 have G3 : Gr g w W3 := gr_trans G2 (gr_below hb3)
 clear z0 z1 z2 R0 R1 R2 G1 G2
 obtain ⟨c0, c1, c2, c3, c4⟩ := x3.cells
 have xl := x3.lt
 obtain ⟨ib, hib⟩ : ∃ i, Hid ((if M1.inB (ia % 3 + 1) 1 5 = true then ia % 3 + 1 else 0) = i) := ⟨_, rfl⟩
 go_wp2_with fail
 refine (regionNew_spec _ _).mono ?_
 rw [hib.out]
 rintro e w4 ⟨rfl, hb4⟩
 have z4 : RgAt w4 z 0 0 0 0 none 0 0 := z3.below hb4
 have x4 : RgAt w4 px ia 0 0 ia none 0 0 := x3.below hb4
 have R4 := R3.below hb4
 have G4 : Gr g w w4 := gr_trans G3 (gr_below hb4)
 have hny : len = 0 ∨ ∃ b off, av = some ⟨b, off, none⟩ ∧ ¬ w4.heap.size = b := R4.old (Nat.le_refl _)
 clear c0 c1 c2 c3 c4 x3 z3 R3 G3
 have hb5 : Below w4.heap.size w4 (w4.alloc (.cells #[.int .i64 ib, .int .i64 0, .int .i64 0, .int .i64 ib, .slice none 0 0] 28)) := (Below.refl _ _).alloc (Nat.le_refl _) _
 have y5 := rg_new w4 ib 0 0 ib none 0 0 28
 go_upto_region 3 with fail
 obtain ⟨W5, hW5⟩ : ∃ W, w4.alloc (.cells #[.int .i64 ib, .int .i64 0, .int .i64 0, .int .i64 ib, .slice none 0 0] 28) = W := ⟨_, rfl⟩
 rw [hW5] at hb5 y5 ⊢
 clear hW5
 have hs4 := hb4.size
 obtain ⟨py, hpy⟩ : ∃ z, Hid (w4.heap.size = z) := ⟨_, rfl⟩
 have hyw : w.heap.size ≤ py := by have := hpy.out; omega
 have hyg : ¬ py = g := by have := hpy.out; omega
 have hyz : ¬ py = z := by have := hpy.out; have := hpx.out; omega
 have hyx : ¬ py = px := by have := hpy.out; omega
 have hxy : ¬ px = py := by have := hpy.out; omega
 have hzx : ¬ z = px := fun e => hxz e.symm
 have hzy : ¬ z = py := fun e => hyz e.symm
 rw [hpy.out] at y5 hny ⊢
 have z5 : RgAt W5 z 0 0 0 0 none 0 0 := z4.below hb5
 have x5 : RgAt W5 px ia 0 0 ia none 0 0 := x4.below hb5
 have R5 := R4.below hb5
 have G5 : Gr g w W5 := gr_trans G4 (gr_below hb5)
 clear z4 x4 R4 G4
 have xo5 : RgO W5 px W5.heap.size ⟨ia, 0, 0, ia, []⟩ none 0 := ⟨x5, ⟨Nat.le_refl _, Nat.zero_le _, .inl ⟨rfl, rfl⟩⟩, rfl⟩
 have yo5 : RgO W5 py W5.heap.size ⟨ib, 0, 0, ib, []⟩ none 0 := ⟨y5, ⟨Nat.le_refl _, Nat.zero_le _, .inl ⟨rfl, rfl⟩⟩, rfl⟩
 have hLx := x5.lt
 have hLy := y5.lt
 have hLz := z5.lt
 have hLg := R5.lt
 obtain ⟨lo, hlo⟩ : ∃ l, Hid (W5.heap.size = l) := ⟨_, rfl⟩
 have hlw : w.heap.size ≤ lo := by have := hlo.out; omega
 rw [hlo.out] at xo5 yo5 hLx hLy hLz hLg
 clear x5 y5
 go_wp2_with fail
 refine (below_any _ _ _ _ _ _ R5 (by omega) (by omega)).mono ?_
 rintro e w6 ⟨x6, rfl, y6, q6, R6, G56⟩
 have xo6 := xo5.gr G56 hxg hLg
 have yo6 := yo5.gr G56 hyg hLg
 have z6 : RgAt w6 z 0 0 0 0 none 0 0 := RowAt.gr z5 G56 hzg
 have G6 : Gr g w w6 := gr_trans G5 G56
 have hlo6 : lo ≤ w6.heap.size := by have := hlo.out; have := G56.size; omega
 clear xo5 yo5 z5 G5 G56 R5
 go_wp2_with fail
 go_loopw [9] (fun i wr => ∃ (k : Int) (X Y : M1.Rg) (vx vy : Option Addr) (cx cy : Nat), 0 ≤ k ∧ k ≤ most ∧ i = .int .i64 k ∧ lo ≤ wr.heap.size ∧ RgO wr px lo X vx cx ∧ RgO wr py lo Y vy cy ∧ RgAt wr z 0 0 0 0 none 0 0 ∧ Rdr wr g av len cap ∧ Gr g w wr) (fun i _ => (intOf i).toNat)
 case atStart => exact ⟨x6, _, _, _, _, _, _, y6, by omega, rfl, hlo6, xo6, yo6, z6, R6, G6⟩
 case round =>
  clear xo6 yo6 z6 R6 G6
  obtain ⟨k, X, Y, vx, vy, cx, cy, hk0, hk1, rfl, hloR, xo, yo, zr, R, G⟩ := hrel
  by_cases hlt : 0 < k
  ·have k0 : ¬ k ≤ 0 := by omega
   go_wp2_with fail
   refine (below_any _ _ _ _ _ _ R (by omega) (by omega)).mono ?_
   rintro e w7 ⟨s, rfl, hs0, hs3, R7, G7⟩
   have xo7 := xo.gr G7 hxg hLg
   have yo7 := yo.gr G7 hyg hLg
   have z7 : RgAt w7 z 0 0 0 0 none 0 0 := RowAt.gr zr G7 hzg
   have Gw7 := gr_trans G G7
   have hlo7 : lo ≤ w7.heap.size := Nat.le_trans hloR G7.size
   clear xo yo zr R G G7
   by_cases s0 : s = 0
   ·have q0 : (s == 0) = true := by simp [s0]
    go_wp2_with fail
    refine wp_region_held_drew (S := fun w' => True) (by kernel_rfl) ?_ (fun hHeld => ?_)
    ·exact trivial
    refine tZ (i:=1) (v:=?_) rfl (.inl ⟨by rfl, ?_⟩) hHeld ?_
    rotate_left
    ·(intro w hSw; (try dsimp only at hSw); go_simp; try (with_reducible rfl))
    (try simp only [Act.put, zZ])
    refine tZ (i:=3) (v:=?_) rfl (.inl ⟨by rfl, ?_⟩) hHeld ?_
    rotate_left
    ·(intro w hSw; (try dsimp only at hSw); go_simp; try (with_reducible rfl))
    (try simp only [Act.put, zZ])
    obtain ⟨w8, hw8⟩ : ∃ W, w7.drew = W := ⟨_, rfl⟩
    have xo : RgO w8 px lo X vx cx := by rw [← hw8]; exact xo7.drew
    have yo : RgO w8 py lo Y vy cy := by rw [← hw8]; exact yo7.drew
    have zr : RgAt w8 z 0 0 0 0 none 0 0 := by rw [← hw8]; exact RowAt.drew z7
    have R : Rdr w8 g av len cap := by rw [← hw8]; exact R7.below (Below.refl _ w7).drew
    have G : Gr g w w8 := by rw [← hw8]; exact gr_drew Gw7
    have hlo8 : lo ≤ w8.heap.size := by rw [← hw8]; exact hlo7
    (try rw [hw8] at hHeld)
    rw [hw8]
    clear hw8 xo7 yo7 z7 R7 Gw7 hlo7
    refine wpAnyH_ready (rs := [0, 2]) (by kernel_rfl) (by simp) ?_
    refine (AllReadyH.cons (o := _) rfl (fun K hK => ?_) (AllReadyH.cons (o := _) rfl (fun K hK => ?_) AllReadyH.nil))
    ·skip
     obtain ⟨a0, a1, a2, a3, a4⟩ := RgAt.cells yo.1
     have ml := yo.1.lt
     go_simp
     refine hK.out _ _ (trivial) (fun hHeld2 => ?_)
     clear hK K hHeld
     have hHeld := hHeld2
     clear hHeld2
     (try simp only [Act.put, zZ])
     clear a0 a1 a2 a3 a4 ml
     refine wpAnyH_ready (rs := [2]) (by kernel_rfl) (by simp) ?_
     refine (AllReadyH.cons (o := _) rfl (fun K hK => ?_) AllReadyH.nil)
     go_simp
     refine (op_any _ _ _ _ _ R).mono ?_
     rintro e w11 ⟨⟨op, rfl, hop⟩, R11, G11⟩
     go_wp2_with fail
     refine hK.out _ _ (trivial) (fun hHeld2 => ?_)
     clear hK K hHeld
     have hHeld := hHeld2
     clear hHeld2
     (try simp only [Act.put, zZ])
     replace R := R11
     replace xo := xo.gr G11 hxg hLg
     replace yo := yo.gr G11 hyg hLg
     replace zr : RgAt w11 z 0 0 0 0 none 0 0 := RowAt.gr zr G11 hzg
     replace G := gr_trans G G11
     have hlo11 : lo ≤ w11.heap.size := Nat.le_trans hlo8 G11.size
     refine wpAnyH_ready (rs := [4]) (by kernel_rfl) (by simp) ?_
     refine (AllReadyH.cons (o := _) rfl (fun K hK => ?_) AllReadyH.nil)
     go_simp
     refine (below_any _ _ _ _ _ _ R (by omega) (by omega)).mono ?_
     rintro e w12 ⟨now, rfl, hn0, hn1, R12, G12⟩
     go_wp2_with fail
     refine hK.out _ _ (trivial) (fun hHeld2 => ?_)
     clear hK K hHeld
     have hHeld := hHeld2
     clear hHeld2
     (try simp only [Act.put, zZ])
     replace R := R12
     replace xo := xo.gr G12 hxg hLg
     replace yo := yo.gr G12 hyg hLg
     replace zr : RgAt w12 z 0 0 0 0 none 0 0 := RowAt.gr zr G12 hzg
     replace G := gr_trans G G12
     have hlo12 : lo ≤ w12.heap.size := Nat.le_trans hlo11 G12.size
     refine wpAnyH_ready (rs := [5]) (by kernel_rfl) (by simp) ?_
     refine (AllReadyH.cons (o := _) rfl (fun K hK => ?_) AllReadyH.nil)
     go_simp
     have js := issued_spec Y op now _ _ _ _ yo.upds (by unfold maxLen; omega)
     unfold IsS RgD at js
     obtain ⟨T, hT⟩ : ∃ T, Hid (M1.isR Y op now = T) := ⟨_, rfl⟩
     have hTs : M1.setOk T.us = true := by rw [← hT.out]; exact M1.is_set _ _ _
     obtain ⟨U, hU⟩ : ∃ u, Hid (M1.isU Y op now = u) := ⟨_, rfl⟩
     obtain ⟨kc, hK2⟩ : ∃ k, Hid (M1.isC Y op now = k) := ⟨_, rfl⟩
     rw [hT.out, hU.out, hK2.out] at js
     refine js.mono ?_
     clear js
     rintro e w13 ⟨⟨_, rfl, tv, tc, rfl, mb⟩, hbb⟩
     go_wp2_with fail
     refine hK.out _ _ (trivial) (fun hHeld2 => ?_)
     clear hK K hHeld
     have hHeld := hHeld2
     clear hHeld2
     (try simp only [Act.put, zZ])
     replace xo := xo.below hbb
     replace yo := yo.below hbb
     replace zr : RgAt w13 z 0 0 0 0 none 0 0 := zr.below hbb
     replace R := R.below hbb
     replace G : Gr g w w13 := gr_trans G (gr_below hbb)
     have hlo13 : lo ≤ w13.heap.size := Nat.le_trans hlo12 hbb.size
     have mb2 : MU w13 tv T.us.length tc lo w13.heap.size (ucell T.us) := mu_low mb hlo12
     refine tZ (i:=6) (v:=?_) rfl (.inl ⟨by rfl, ?_⟩) hHeld ?_
     rotate_left
     ·(intro w hSw; (try dsimp only at hSw); go_simp; try (with_reducible rfl))
     (try simp only [Act.put, zZ])
     refine tZ (i:=7) (v:=?_) rfl (.inl ⟨by rfl, ?_⟩) hHeld ?_
     rotate_left
     ·(intro w hSw; (try dsimp only at hSw); go_simp; try (with_reducible rfl))
     (try simp only [Act.put, zZ])
     refine tZ (i:=8) (v:=?_) rfl (.inl ⟨by rfl, ?_⟩) hHeld ?_
     rotate_left
     ·(intro w hSw; (try dsimp only at hSw); go_simp; try (with_reducible rfl))
     (try simp only [Act.put, zZ])
     refine tZ (i:=9) (v:=?_) rfl (.inl ⟨by rfl, ?_⟩) hHeld ?_
     rotate_left
     ·(intro w hSw; (try dsimp only at hSw); go_simp; try (with_reducible rfl))
     (try simp only [Act.put, zZ])
     obtain ⟨a0, a1, a2, a3, a4⟩ := RgAt.cells yo.1
     obtain ⟨b0, b1, b2, b3, b4⟩ := RgAt.frees yo.1
     have ml := yo.1.lt
     have n1 := RgO.put yo.1 T tv tc mb2 hTs hLy
     have n2 := xo.far hyx hLy (.int .i64 T.id) (.int .i64 T.a) (.int .i64 T.b) (.int .i64 T.c) (.slice tv T.us.length tc)
     have n3 : RgAt (((((w13.setCell ⟨py, 0, none⟩ (.int .i64 T.id)).setCell ⟨py, 1, none⟩ (.int .i64 T.a)).setCell ⟨py, 2, none⟩ (.int .i64 T.b)).setCell ⟨py, 3, none⟩ (.int .i64 T.c)).setCell ⟨py, 4, none⟩ (.slice tv T.us.length tc)) z 0 0 0 0 none 0 0 := far5 zr hyz _ _ _ _ _
     have n4 : Rdr (((((w13.setCell ⟨py, 0, none⟩ (.int .i64 T.id)).setCell ⟨py, 1, none⟩ (.int .i64 T.a)).setCell ⟨py, 2, none⟩ (.int .i64 T.b)).setCell ⟨py, 3, none⟩ (.int .i64 T.c)).setCell ⟨py, 4, none⟩ (.slice tv T.us.length tc)) g av len cap := rdr_put5 R hyg hny _ _ _ _ _
     have n5 : Gr g w (((((w13.setCell ⟨py, 0, none⟩ (.int .i64 T.id)).setCell ⟨py, 1, none⟩ (.int .i64 T.a)).setCell ⟨py, 2, none⟩ (.int .i64 T.b)).setCell ⟨py, 3, none⟩ (.int .i64 T.c)).setCell ⟨py, 4, none⟩ (.slice tv T.us.length tc)) := gr_put5 G hyw _ _ _ _ _
     have hsz9 : lo ≤ (((((w13.setCell ⟨py, 0, none⟩ (.int .i64 T.id)).setCell ⟨py, 1, none⟩ (.int .i64 T.a)).setCell ⟨py, 2, none⟩ (.int .i64 T.b)).setCell ⟨py, 3, none⟩ (.int .i64 T.c)).setCell ⟨py, 4, none⟩ (.slice tv T.us.length tc)).heap.size := Nat.le_trans hlo13 (bel_put5 (Below.refl 0 w13) (Nat.zero_le py) _ _ _ _ _).size
     refine wpAnyH_ready (rs := [10]) (by kernel_rfl) (by simp) ?_
     refine AllReadyH.cons (o := _) rfl (fun K hK => ?_) AllReadyH.nil
     go_simp
     skip
     refine hK.out _ _ ?_ (fun hHeld2 => ?_)
     ·exact trivial
     clear hK K hHeld
     have hHeld := hHeld2
     clear hHeld2
     (try simp only [Act.put, zZ])
     refine wpAnyH_done (by kernel_rfl) ?_ _
     clear hHeld a0 a1 a2 a3 a4 b0 b1 b2 b3 b4
     go_wp2_with fail
     exact ⟨⟨k - 1, X, T, vx, tv, cx, tc, by omega, by omega, by go_num, hsz9, n2, n1, n3, n4, n5⟩, by simp [intOf]; omega⟩
    ·skip
     go_simp
     refine (op_any _ _ _ _ _ R).mono ?_
     rintro e w14 ⟨⟨op, rfl, hop⟩, R14, G14⟩
     go_wp2_with fail
     refine hK.out _ _ (trivial) (fun hHeld2 => ?_)
     clear hK K hHeld
     have hHeld := hHeld2
     clear hHeld2
     (try simp only [Act.put, zZ])
     replace R := R14
     replace xo := xo.gr G14 hxg hLg
     replace yo := yo.gr G14 hyg hLg
     replace zr : RgAt w14 z 0 0 0 0 none 0 0 := RowAt.gr zr G14 hzg
     replace G := gr_trans G G14
     have hlo14 : lo ≤ w14.heap.size := Nat.le_trans hlo8 G14.size
     refine wpAnyH_ready (rs := [0, 4]) (by kernel_rfl) (by simp) ?_
     refine (AllReadyH.cons (o := _) rfl (fun K hK => ?_) (AllReadyH.cons (o := _) rfl (fun K hK => ?_) AllReadyH.nil))
     ·skip
      obtain ⟨a0, a1, a2, a3, a4⟩ := RgAt.cells yo.1
      have ml := yo.1.lt
      go_simp
      refine hK.out _ _ (trivial) (fun hHeld2 => ?_)
      clear hK K hHeld
      have hHeld := hHeld2
      clear hHeld2
      (try simp only [Act.put, zZ])
      clear a0 a1 a2 a3 a4 ml
      refine wpAnyH_ready (rs := [4]) (by kernel_rfl) (by simp) ?_
      refine (AllReadyH.cons (o := _) rfl (fun K hK => ?_) AllReadyH.nil)
      go_simp
      refine (below_any _ _ _ _ _ _ R (by omega) (by omega)).mono ?_
      rintro e w15 ⟨now, rfl, hn0, hn1, R15, G15⟩
      go_wp2_with fail
      refine hK.out _ _ (trivial) (fun hHeld2 => ?_)
      clear hK K hHeld
      have hHeld := hHeld2
      clear hHeld2
      (try simp only [Act.put, zZ])
      replace R := R15
      replace xo := xo.gr G15 hxg hLg
      replace yo := yo.gr G15 hyg hLg
      replace zr : RgAt w15 z 0 0 0 0 none 0 0 := RowAt.gr zr G15 hzg
      replace G := gr_trans G G15
      have hlo15 : lo ≤ w15.heap.size := Nat.le_trans hlo14 G15.size
      refine wpAnyH_ready (rs := [5]) (by kernel_rfl) (by simp) ?_
      refine (AllReadyH.cons (o := _) rfl (fun K hK => ?_) AllReadyH.nil)
      go_simp
      have js := issued_spec Y op now _ _ _ _ yo.upds (by unfold maxLen; omega)
      unfold IsS RgD at js
      obtain ⟨T, hT⟩ : ∃ T, Hid (M1.isR Y op now = T) := ⟨_, rfl⟩
      have hTs : M1.setOk T.us = true := by rw [← hT.out]; exact M1.is_set _ _ _
      obtain ⟨U, hU⟩ : ∃ u, Hid (M1.isU Y op now = u) := ⟨_, rfl⟩
      obtain ⟨kc, hK2⟩ : ∃ k, Hid (M1.isC Y op now = k) := ⟨_, rfl⟩
      rw [hT.out, hU.out, hK2.out] at js
      refine js.mono ?_
      clear js
      rintro e w16 ⟨⟨_, rfl, tv, tc, rfl, mb⟩, hbb⟩
      go_wp2_with fail
      refine hK.out _ _ (trivial) (fun hHeld2 => ?_)
      clear hK K hHeld
      have hHeld := hHeld2
      clear hHeld2
      (try simp only [Act.put, zZ])
      replace xo := xo.below hbb
      replace yo := yo.below hbb
      replace zr : RgAt w16 z 0 0 0 0 none 0 0 := zr.below hbb
      replace R := R.below hbb
      replace G : Gr g w w16 := gr_trans G (gr_below hbb)
      have hlo16 : lo ≤ w16.heap.size := Nat.le_trans hlo15 hbb.size
      have mb2 : MU w16 tv T.us.length tc lo w16.heap.size (ucell T.us) := mu_low mb hlo15
      refine tZ (i:=6) (v:=?_) rfl (.inl ⟨by rfl, ?_⟩) hHeld ?_
      rotate_left
      ·(intro w hSw; (try dsimp only at hSw); go_simp; try (with_reducible rfl))
      (try simp only [Act.put, zZ])
      refine tZ (i:=7) (v:=?_) rfl (.inl ⟨by rfl, ?_⟩) hHeld ?_
      rotate_left
      ·(intro w hSw; (try dsimp only at hSw); go_simp; try (with_reducible rfl))
      (try simp only [Act.put, zZ])
      refine tZ (i:=8) (v:=?_) rfl (.inl ⟨by rfl, ?_⟩) hHeld ?_
      rotate_left
      ·(intro w hSw; (try dsimp only at hSw); go_simp; try (with_reducible rfl))
      (try simp only [Act.put, zZ])
      refine tZ (i:=9) (v:=?_) rfl (.inl ⟨by rfl, ?_⟩) hHeld ?_
      rotate_left
      ·(intro w hSw; (try dsimp only at hSw); go_simp; try (with_reducible rfl))
      (try simp only [Act.put, zZ])
      obtain ⟨a0, a1, a2, a3, a4⟩ := RgAt.cells yo.1
      obtain ⟨b0, b1, b2, b3, b4⟩ := RgAt.frees yo.1
      have ml := yo.1.lt
      have n1 := RgO.put yo.1 T tv tc mb2 hTs hLy
      have n2 := xo.far hyx hLy (.int .i64 T.id) (.int .i64 T.a) (.int .i64 T.b) (.int .i64 T.c) (.slice tv T.us.length tc)
      have n3 : RgAt (((((w16.setCell ⟨py, 0, none⟩ (.int .i64 T.id)).setCell ⟨py, 1, none⟩ (.int .i64 T.a)).setCell ⟨py, 2, none⟩ (.int .i64 T.b)).setCell ⟨py, 3, none⟩ (.int .i64 T.c)).setCell ⟨py, 4, none⟩ (.slice tv T.us.length tc)) z 0 0 0 0 none 0 0 := far5 zr hyz _ _ _ _ _
      have n4 : Rdr (((((w16.setCell ⟨py, 0, none⟩ (.int .i64 T.id)).setCell ⟨py, 1, none⟩ (.int .i64 T.a)).setCell ⟨py, 2, none⟩ (.int .i64 T.b)).setCell ⟨py, 3, none⟩ (.int .i64 T.c)).setCell ⟨py, 4, none⟩ (.slice tv T.us.length tc)) g av len cap := rdr_put5 R hyg hny _ _ _ _ _
      have n5 : Gr g w (((((w16.setCell ⟨py, 0, none⟩ (.int .i64 T.id)).setCell ⟨py, 1, none⟩ (.int .i64 T.a)).setCell ⟨py, 2, none⟩ (.int .i64 T.b)).setCell ⟨py, 3, none⟩ (.int .i64 T.c)).setCell ⟨py, 4, none⟩ (.slice tv T.us.length tc)) := gr_put5 G hyw _ _ _ _ _
      have hsz9 : lo ≤ (((((w16.setCell ⟨py, 0, none⟩ (.int .i64 T.id)).setCell ⟨py, 1, none⟩ (.int .i64 T.a)).setCell ⟨py, 2, none⟩ (.int .i64 T.b)).setCell ⟨py, 3, none⟩ (.int .i64 T.c)).setCell ⟨py, 4, none⟩ (.slice tv T.us.length tc)).heap.size := Nat.le_trans hlo16 (bel_put5 (Below.refl 0 w16) (Nat.zero_le py) _ _ _ _ _).size
      refine wpAnyH_ready (rs := [10]) (by kernel_rfl) (by simp) ?_
      refine AllReadyH.cons (o := _) rfl (fun K hK => ?_) AllReadyH.nil
      go_simp
      skip
      refine hK.out _ _ ?_ (fun hHeld2 => ?_)
      ·exact trivial
      clear hK K hHeld
      have hHeld := hHeld2
      clear hHeld2
      (try simp only [Act.put, zZ])
      refine wpAnyH_done (by kernel_rfl) ?_ _
      clear hHeld a0 a1 a2 a3 a4 b0 b1 b2 b3 b4
      go_wp2_with fail
      exact ⟨⟨k - 1, X, T, vx, tv, cx, tc, by omega, by omega, by go_num, hsz9, n2, n1, n3, n4, n5⟩, by simp [intOf]; omega⟩
     ·skip
      go_simp
      refine (below_any _ _ _ _ _ _ R (by omega) (by omega)).mono ?_
      rintro e w17 ⟨now, rfl, hn0, hn1, R17, G17⟩
      go_wp2_with fail
      refine hK.out _ _ (trivial) (fun hHeld2 => ?_)
      clear hK K hHeld
      have hHeld := hHeld2
      clear hHeld2
      (try simp only [Act.put, zZ])
      replace R := R17
      replace xo := xo.gr G17 hxg hLg
      replace yo := yo.gr G17 hyg hLg
      replace zr : RgAt w17 z 0 0 0 0 none 0 0 := RowAt.gr zr G17 hzg
      replace G := gr_trans G G17
      have hlo17 : lo ≤ w17.heap.size := Nat.le_trans hlo14 G17.size
      refine wpAnyH_ready (rs := [0]) (by kernel_rfl) (by simp) ?_
      refine (AllReadyH.cons (o := _) rfl (fun K hK => ?_) AllReadyH.nil)
      obtain ⟨a0, a1, a2, a3, a4⟩ := RgAt.cells yo.1
      have ml := yo.1.lt
      go_simp
      refine hK.out _ _ (trivial) (fun hHeld2 => ?_)
      clear hK K hHeld
      have hHeld := hHeld2
      clear hHeld2
      (try simp only [Act.put, zZ])
      clear a0 a1 a2 a3 a4 ml
      refine wpAnyH_ready (rs := [5]) (by kernel_rfl) (by simp) ?_
      refine (AllReadyH.cons (o := _) rfl (fun K hK => ?_) AllReadyH.nil)
      go_simp
      have js := issued_spec Y op now _ _ _ _ yo.upds (by unfold maxLen; omega)
      unfold IsS RgD at js
      obtain ⟨T, hT⟩ : ∃ T, Hid (M1.isR Y op now = T) := ⟨_, rfl⟩
      have hTs : M1.setOk T.us = true := by rw [← hT.out]; exact M1.is_set _ _ _
      obtain ⟨U, hU⟩ : ∃ u, Hid (M1.isU Y op now = u) := ⟨_, rfl⟩
      obtain ⟨kc, hK2⟩ : ∃ k, Hid (M1.isC Y op now = k) := ⟨_, rfl⟩
      rw [hT.out, hU.out, hK2.out] at js
      refine js.mono ?_
      clear js
      rintro e w18 ⟨⟨_, rfl, tv, tc, rfl, mb⟩, hbb⟩
      go_wp2_with fail
      refine hK.out _ _ (trivial) (fun hHeld2 => ?_)
      clear hK K hHeld
      have hHeld := hHeld2
      clear hHeld2
      (try simp only [Act.put, zZ])
      replace xo := xo.below hbb
      replace yo := yo.below hbb
      replace zr : RgAt w18 z 0 0 0 0 none 0 0 := zr.below hbb
      replace R := R.below hbb
      replace G : Gr g w w18 := gr_trans G (gr_below hbb)
      have hlo18 : lo ≤ w18.heap.size := Nat.le_trans hlo17 hbb.size
      have mb2 : MU w18 tv T.us.length tc lo w18.heap.size (ucell T.us) := mu_low mb hlo17
      refine tZ (i:=6) (v:=?_) rfl (.inl ⟨by rfl, ?_⟩) hHeld ?_
      rotate_left
      ·(intro w hSw; (try dsimp only at hSw); go_simp; try (with_reducible rfl))
      (try simp only [Act.put, zZ])
      refine tZ (i:=7) (v:=?_) rfl (.inl ⟨by rfl, ?_⟩) hHeld ?_
      rotate_left
      ·(intro w hSw; (try dsimp only at hSw); go_simp; try (with_reducible rfl))
      (try simp only [Act.put, zZ])
      refine tZ (i:=8) (v:=?_) rfl (.inl ⟨by rfl, ?_⟩) hHeld ?_
      rotate_left
      ·(intro w hSw; (try dsimp only at hSw); go_simp; try (with_reducible rfl))
      (try simp only [Act.put, zZ])
      refine tZ (i:=9) (v:=?_) rfl (.inl ⟨by rfl, ?_⟩) hHeld ?_
      rotate_left
      ·(intro w hSw; (try dsimp only at hSw); go_simp; try (with_reducible rfl))
      (try simp only [Act.put, zZ])
      obtain ⟨a0, a1, a2, a3, a4⟩ := RgAt.cells yo.1
      obtain ⟨b0, b1, b2, b3, b4⟩ := RgAt.frees yo.1
      have ml := yo.1.lt
      have n1 := RgO.put yo.1 T tv tc mb2 hTs hLy
      have n2 := xo.far hyx hLy (.int .i64 T.id) (.int .i64 T.a) (.int .i64 T.b) (.int .i64 T.c) (.slice tv T.us.length tc)
      have n3 : RgAt (((((w18.setCell ⟨py, 0, none⟩ (.int .i64 T.id)).setCell ⟨py, 1, none⟩ (.int .i64 T.a)).setCell ⟨py, 2, none⟩ (.int .i64 T.b)).setCell ⟨py, 3, none⟩ (.int .i64 T.c)).setCell ⟨py, 4, none⟩ (.slice tv T.us.length tc)) z 0 0 0 0 none 0 0 := far5 zr hyz _ _ _ _ _
      have n4 : Rdr (((((w18.setCell ⟨py, 0, none⟩ (.int .i64 T.id)).setCell ⟨py, 1, none⟩ (.int .i64 T.a)).setCell ⟨py, 2, none⟩ (.int .i64 T.b)).setCell ⟨py, 3, none⟩ (.int .i64 T.c)).setCell ⟨py, 4, none⟩ (.slice tv T.us.length tc)) g av len cap := rdr_put5 R hyg hny _ _ _ _ _
      have n5 : Gr g w (((((w18.setCell ⟨py, 0, none⟩ (.int .i64 T.id)).setCell ⟨py, 1, none⟩ (.int .i64 T.a)).setCell ⟨py, 2, none⟩ (.int .i64 T.b)).setCell ⟨py, 3, none⟩ (.int .i64 T.c)).setCell ⟨py, 4, none⟩ (.slice tv T.us.length tc)) := gr_put5 G hyw _ _ _ _ _
      have hsz9 : lo ≤ (((((w18.setCell ⟨py, 0, none⟩ (.int .i64 T.id)).setCell ⟨py, 1, none⟩ (.int .i64 T.a)).setCell ⟨py, 2, none⟩ (.int .i64 T.b)).setCell ⟨py, 3, none⟩ (.int .i64 T.c)).setCell ⟨py, 4, none⟩ (.slice tv T.us.length tc)).heap.size := Nat.le_trans hlo18 (bel_put5 (Below.refl 0 w18) (Nat.zero_le py) _ _ _ _ _).size
      refine wpAnyH_ready (rs := [10]) (by kernel_rfl) (by simp) ?_
      refine AllReadyH.cons (o := _) rfl (fun K hK => ?_) AllReadyH.nil
      go_simp
      skip
      refine hK.out _ _ ?_ (fun hHeld2 => ?_)
      ·exact trivial
      clear hK K hHeld
      have hHeld := hHeld2
      clear hHeld2
      (try simp only [Act.put, zZ])
      refine wpAnyH_done (by kernel_rfl) ?_ _
      clear hHeld a0 a1 a2 a3 a4 b0 b1 b2 b3 b4
      go_wp2_with fail
      exact ⟨⟨k - 1, X, T, vx, tv, cx, tc, by omega, by omega, by go_num, hsz9, n2, n1, n3, n4, n5⟩, by simp [intOf]; omega⟩
   ·have q0 : (s == 0) = false := by simp [s0]
    by_cases s1 : s = 1
    ·have q1 : (s == 1) = true := by simp [s1]
     go_wp2_with fail
     refine wp_region_held_drew (S := fun w' => RgAt w' py Y.id Y.a Y.b Y.c vy Y.us.length cy) (by kernel_rfl) ?_ (fun hHeld => ?_)
     ·exact RowAt.drew yo7.1
     refine tZ (i:=1) (v:=?_) rfl (.inl ⟨by rfl, ?_⟩) hHeld ?_
     rotate_left
     ·(intro w hSw; (try dsimp only at hSw); go_simp; try (with_reducible rfl))
     (try simp only [Act.put, zZ])
     refine tZ (i:=3) (v:=?_) rfl (.inl ⟨by rfl, ?_⟩) hHeld ?_
     rotate_left
     ·(intro w hSw; (try dsimp only at hSw); go_simp; try (with_reducible rfl))
     (try simp only [Act.put, zZ])
     refine tZ (i:=6) (v:=?_) rfl (.inl ⟨by rfl, ?_⟩) hHeld ?_
     rotate_left
     ·(intro w hSw; (try dsimp only at hSw); go_simp; try (with_reducible rfl))
     (try simp only [Act.put, zZ])
     refine tZ (i:=10) (v:=?_) rfl (.inl ⟨by rfl, ?_⟩) hHeld ?_
     rotate_left
     ·(intro w hSw; (try dsimp only at hSw); go_simp; try (with_reducible rfl))
     (try simp only [Act.put, zZ])
     obtain ⟨w8, hw8⟩ : ∃ W, w7.drew = W := ⟨_, rfl⟩
     have xo : RgO w8 px lo X vx cx := by rw [← hw8]; exact xo7.drew
     have yo : RgO w8 py lo Y vy cy := by rw [← hw8]; exact yo7.drew
     have zr : RgAt w8 z 0 0 0 0 none 0 0 := by rw [← hw8]; exact RowAt.drew z7
     have R : Rdr w8 g av len cap := by rw [← hw8]; exact R7.below (Below.refl _ w7).drew
     have G : Gr g w w8 := by rw [← hw8]; exact gr_drew Gw7
     have hlo8 : lo ≤ w8.heap.size := by rw [← hw8]; exact hlo7
     (try rw [hw8] at hHeld)
     rw [hw8]
     clear hw8 xo7 yo7 z7 R7 Gw7 hlo7
     refine tZ (i:=2) (v:=.slice vy Y.us.length cy) rfl (.inl ⟨by rfl, ?_⟩) hHeld ?_
     ·(intro w hSw; (try dsimp only at hSw); go_simp; (have h4 := (RgAt.cells hSw).2.2.2.2; simp [go_sem, h4]))
     (try simp only [Act.put, zZ])
     refine wpAnyH_ready (rs := [0, 4]) (by kernel_rfl) (by simp) ?_
     refine (AllReadyH.cons (o := _) rfl (fun K hK => ?_) (AllReadyH.cons (o := _) rfl (fun K hK => ?_) AllReadyH.nil))
     ·skip
      obtain ⟨a0, a1, a2, a3, a4⟩ := RgAt.cells xo.1
      have ml := xo.1.lt
      go_simp
      refine hK.out _ _ (hHeld) (fun hHeld2 => ?_)
      clear hK K hHeld
      have hHeld := hHeld2
      clear hHeld2
      (try simp only [Act.put, zZ])
      clear a0 a1 a2 a3 a4 ml
      refine wpAnyH_ready (rs := [4]) (by kernel_rfl) (by simp) ?_
      refine (AllReadyH.cons (o := _) rfl (fun K hK => ?_) AllReadyH.nil)
      obtain ⟨a0, a1, a2, a3, a4⟩ := RgAt.cells xo.1
      have ml := xo.1.lt
      go_simp
      refine hK.out _ _ (hHeld) (fun hHeld2 => ?_)
      clear hK K hHeld
      have hHeld := hHeld2
      clear hHeld2
      (try simp only [Act.put, zZ])
      clear a0 a1 a2 a3 a4 ml
      refine wpAnyH_ready (rs := [5]) (by kernel_rfl) (by simp) ?_
      refine (AllReadyH.cons (o := _) rfl (fun K hK => ?_) AllReadyH.nil)
      go_simp
      refine (l3Vector_gen _ _ _ X.us _ xo.upds (by have := M1.setOk_len xo.2.2; omega)).mono ?_
      rintro e w19 ⟨⟨v5, rfl, own5⟩, hb5⟩
      obtain ⟨dv, dc, rfl, mv5⟩ := MV.of_owns own5
      go_wp2_with fail
      refine hK.out _ _ (RowAt.below hHeld hb5) (fun hHeld2 => ?_)
      clear hK K hHeld
      have hHeld := hHeld2
      clear hHeld2
      (try simp only [Act.put, zZ])
      replace xo := xo.below hb5
      replace yo := yo.below hb5
      replace zr : RgAt w19 z 0 0 0 0 none 0 0 := zr.below hb5
      replace R := R.below hb5
      replace G : Gr g w w19 := gr_trans G (gr_below hb5)
      have hlo19 : lo ≤ w19.heap.size := Nat.le_trans hlo8 hb5.size
      have vec := mv5.vec rfl
      refine wpAnyH_ready (rs := [7]) (by kernel_rfl) (by simp) ?_
      refine (AllReadyH.cons (o := _) rfl (fun K hK => ?_) AllReadyH.nil)
      go_simp
      refine (below_any _ _ _ _ _ _ R (by omega) (by omega)).mono ?_
      rintro e w20 ⟨m, rfl, hm2, hm3, R20, G20⟩
      go_wp2_with fail
      refine hK.out _ _ (RowAt.gr hHeld G20 hyg) (fun hHeld2 => ?_)
      clear hK K hHeld
      have hHeld := hHeld2
      clear hHeld2
      (try simp only [Act.put, zZ])
      replace R := R20
      replace xo := xo.gr G20 hxg hLg
      replace yo := yo.gr G20 hyg hLg
      replace zr : RgAt w20 z 0 0 0 0 none 0 0 := RowAt.gr zr G20 hzg
      replace G := gr_trans G G20
      have hlo20 : lo ≤ w20.heap.size := Nat.le_trans hlo19 G20.size
      replace mv5 := mv_gr mv5 G20 (by omega)
      replace vec := mv5.vec rfl
      refine tZ (i:=8) (v:=.int .i64 (1 + m)) rfl (.inl ⟨by rfl, ?_⟩) hHeld ?_
      ·(intro w hSw; (try dsimp only at hSw); go_simp; (try exact IntWalk.i64_in _ (by omega)))
      (try simp only [Act.put, zZ])
      refine wpAnyH_ready (rs := [9]) (by kernel_rfl) (by simp) ?_
      refine (AllReadyH.cons (o := _) rfl (fun K hK => ?_) AllReadyH.nil)
      go_simp
      refine (l3Since_gen _ _ _ _ _ _ Y.us _ (1 + m) _ yo.upds vec (set_Short yo.2.2) (by have := M1.setOk_len yo.2.2; omega) (by omega) (by omega)).mono ?_
      rintro e w21 ⟨⟨v9, ns, rfl, own9, hnl, hsh⟩, hb9⟩
      obtain ⟨sv, sc, rfl, ms⟩ := MU.of_owns own9
      go_wp2_with fail
      refine hK.out _ _ (RowAt.below hHeld hb9) (fun hHeld2 => ?_)
      clear hK K hHeld
      have hHeld := hHeld2
      clear hHeld2
      (try simp only [Act.put, zZ])
      replace xo := xo.below hb9
      replace yo := yo.below hb9
      replace zr : RgAt w21 z 0 0 0 0 none 0 0 := zr.below hb9
      replace R := R.below hb9
      replace G : Gr g w w21 := gr_trans G (gr_below hb9)
      have hlo21 : lo ≤ w21.heap.size := Nat.le_trans hlo20 hb9.size
      refine wpAnyH_ready (rs := [11]) (by kernel_rfl) (by simp) ?_
      refine (AllReadyH.cons (o := _) rfl (fun K hK => ?_) AllReadyH.nil)
      go_simp
      refine (below_any _ _ _ _ _ _ R (by omega) (by omega)).mono ?_
      rintro e w22 ⟨now, rfl, hn0, hn1, R22, G22⟩
      go_wp2_with fail
      refine hK.out _ _ (RowAt.gr hHeld G22 hyg) (fun hHeld2 => ?_)
      clear hK K hHeld
      have hHeld := hHeld2
      clear hHeld2
      (try simp only [Act.put, zZ])
      replace R := R22
      replace xo := xo.gr G22 hxg hLg
      replace yo := yo.gr G22 hyg hLg
      replace zr : RgAt w22 z 0 0 0 0 none 0 0 := RowAt.gr zr G22 hzg
      replace G := gr_trans G G22
      have hlo22 : lo ≤ w22.heap.size := Nat.le_trans hlo21 G22.size
      replace ms := ms.off G22 (.inl (by omega))
      refine wpAnyH_ready (rs := [12]) (by kernel_rfl) (by simp) ?_
      refine (AllReadyH.cons (o := _) rfl (fun K hK => ?_) AllReadyH.nil)
      go_simp
      have js := received_spec X _ _ _ _ _ _ ns now _ xo.upds (ms.upds rfl hsh.max)
      unfold RcS RgD at js
      obtain ⟨T, hT⟩ : ∃ T, Hid (M1.rcR X ns now = T) := ⟨_, rfl⟩
      have hTs : M1.setOk T.us = true := by rw [← hT.out]; exact M1.rc_set _ _ _
      obtain ⟨kc, hK2⟩ : ∃ k, Hid (M1.rcC X ns now = k) := ⟨_, rfl⟩
      rw [hT.out, hK2.out] at js
      refine js.mono ?_
      clear js
      rintro e w23 ⟨⟨_, rfl, tv, tc, rfl, mb⟩, hbb⟩
      go_wp2_with fail
      refine hK.out _ _ (RowAt.below hHeld hbb) (fun hHeld2 => ?_)
      clear hK K hHeld
      have hHeld := hHeld2
      clear hHeld2
      (try simp only [Act.put, zZ])
      replace xo := xo.below hbb
      replace yo := yo.below hbb
      replace zr : RgAt w23 z 0 0 0 0 none 0 0 := zr.below hbb
      replace R := R.below hbb
      replace G : Gr g w w23 := gr_trans G (gr_below hbb)
      have hlo23 : lo ≤ w23.heap.size := Nat.le_trans hlo22 hbb.size
      have mb2 : MU w23 tv T.us.length tc lo w23.heap.size (ucell T.us) := mu_low mb hlo22
      refine tZ (i:=13) (v:=?_) rfl (.inl ⟨by rfl, ?_⟩) hHeld ?_
      rotate_left
      ·(intro w hSw; (try dsimp only at hSw); go_simp; try (with_reducible rfl))
      (try simp only [Act.put, zZ])
      refine tZ (i:=14) (v:=?_) rfl (.inl ⟨by rfl, ?_⟩) hHeld ?_
      rotate_left
      ·(intro w hSw; (try dsimp only at hSw); go_simp; try (with_reducible rfl))
      (try simp only [Act.put, zZ])
      refine tZ (i:=15) (v:=?_) rfl (.inl ⟨by rfl, ?_⟩) hHeld ?_
      rotate_left
      ·(intro w hSw; (try dsimp only at hSw); go_simp; try (with_reducible rfl))
      (try simp only [Act.put, zZ])
      obtain ⟨a0, a1, a2, a3, a4⟩ := RgAt.cells xo.1
      obtain ⟨b0, b1, b2, b3, b4⟩ := RgAt.frees xo.1
      have ml := xo.1.lt
      have n1 := RgO.put xo.1 T tv tc mb2 hTs hLx
      have n2 := yo.far hxy hLx (.int .i64 T.id) (.int .i64 T.a) (.int .i64 T.b) (.int .i64 T.c) (.slice tv T.us.length tc)
      have n3 : RgAt (((((w23.setCell ⟨px, 0, none⟩ (.int .i64 T.id)).setCell ⟨px, 1, none⟩ (.int .i64 T.a)).setCell ⟨px, 2, none⟩ (.int .i64 T.b)).setCell ⟨px, 3, none⟩ (.int .i64 T.c)).setCell ⟨px, 4, none⟩ (.slice tv T.us.length tc)) z 0 0 0 0 none 0 0 := far5 zr hxz _ _ _ _ _
      have n4 : Rdr (((((w23.setCell ⟨px, 0, none⟩ (.int .i64 T.id)).setCell ⟨px, 1, none⟩ (.int .i64 T.a)).setCell ⟨px, 2, none⟩ (.int .i64 T.b)).setCell ⟨px, 3, none⟩ (.int .i64 T.c)).setCell ⟨px, 4, none⟩ (.slice tv T.us.length tc)) g av len cap := rdr_put5 R hxg hnx _ _ _ _ _
      have n5 : Gr g w (((((w23.setCell ⟨px, 0, none⟩ (.int .i64 T.id)).setCell ⟨px, 1, none⟩ (.int .i64 T.a)).setCell ⟨px, 2, none⟩ (.int .i64 T.b)).setCell ⟨px, 3, none⟩ (.int .i64 T.c)).setCell ⟨px, 4, none⟩ (.slice tv T.us.length tc)) := gr_put5 G hxw _ _ _ _ _
      have hsz9 : lo ≤ (((((w23.setCell ⟨px, 0, none⟩ (.int .i64 T.id)).setCell ⟨px, 1, none⟩ (.int .i64 T.a)).setCell ⟨px, 2, none⟩ (.int .i64 T.b)).setCell ⟨px, 3, none⟩ (.int .i64 T.c)).setCell ⟨px, 4, none⟩ (.slice tv T.us.length tc)).heap.size := Nat.le_trans hlo23 (bel_put5 (Below.refl 0 w23) (Nat.zero_le px) _ _ _ _ _).size
      refine wpAnyH_ready (rs := [16]) (by kernel_rfl) (by simp) ?_
      refine AllReadyH.cons (o := _) rfl (fun K hK => ?_) AllReadyH.nil
      go_simp
      skip
      refine hK.out _ _ ?_ (fun hHeld2 => ?_)
      ·exact n2.1
      clear hK K hHeld
      have hHeld := hHeld2
      clear hHeld2
      (try simp only [Act.put, zZ])
      refine wpAnyH_done (by kernel_rfl) ?_ _
      clear hHeld a0 a1 a2 a3 a4 b0 b1 b2 b3 b4
      go_wp2_with fail
      exact ⟨⟨k - 1, T, Y, tv, vy, tc, cy, by omega, by omega, by go_num, hsz9, n1, n2, n3, n4, n5⟩, by simp [intOf]; omega⟩
     ·skip
      obtain ⟨a0, a1, a2, a3, a4⟩ := RgAt.cells xo.1
      have ml := xo.1.lt
      go_simp
      refine hK.out _ _ (hHeld) (fun hHeld2 => ?_)
      clear hK K hHeld
      have hHeld := hHeld2
      clear hHeld2
      (try simp only [Act.put, zZ])
      clear a0 a1 a2 a3 a4 ml
      refine wpAnyH_ready (rs := [0, 5]) (by kernel_rfl) (by simp) ?_
      refine (AllReadyH.cons (o := _) rfl (fun K hK => ?_) (AllReadyH.cons (o := _) rfl (fun K hK => ?_) AllReadyH.nil))
      ·skip
       obtain ⟨a0, a1, a2, a3, a4⟩ := RgAt.cells xo.1
       have ml := xo.1.lt
       go_simp
       refine hK.out _ _ (hHeld) (fun hHeld2 => ?_)
       clear hK K hHeld
       have hHeld := hHeld2
       clear hHeld2
       (try simp only [Act.put, zZ])
       clear a0 a1 a2 a3 a4 ml
       refine wpAnyH_ready (rs := [5]) (by kernel_rfl) (by simp) ?_
       refine (AllReadyH.cons (o := _) rfl (fun K hK => ?_) AllReadyH.nil)
       go_simp
       refine (l3Vector_gen _ _ _ X.us _ xo.upds (by have := M1.setOk_len xo.2.2; omega)).mono ?_
       rintro e w24 ⟨⟨v5, rfl, own5⟩, hb5⟩
       obtain ⟨dv, dc, rfl, mv5⟩ := MV.of_owns own5
       go_wp2_with fail
       refine hK.out _ _ (RowAt.below hHeld hb5) (fun hHeld2 => ?_)
       clear hK K hHeld
       have hHeld := hHeld2
       clear hHeld2
       (try simp only [Act.put, zZ])
       replace xo := xo.below hb5
       replace yo := yo.below hb5
       replace zr : RgAt w24 z 0 0 0 0 none 0 0 := zr.below hb5
       replace R := R.below hb5
       replace G : Gr g w w24 := gr_trans G (gr_below hb5)
       have hlo24 : lo ≤ w24.heap.size := Nat.le_trans hlo8 hb5.size
       have vec := mv5.vec rfl
       refine wpAnyH_ready (rs := [7]) (by kernel_rfl) (by simp) ?_
       refine (AllReadyH.cons (o := _) rfl (fun K hK => ?_) AllReadyH.nil)
       go_simp
       refine (below_any _ _ _ _ _ _ R (by omega) (by omega)).mono ?_
       rintro e w25 ⟨m, rfl, hm2, hm3, R25, G25⟩
       go_wp2_with fail
       refine hK.out _ _ (RowAt.gr hHeld G25 hyg) (fun hHeld2 => ?_)
       clear hK K hHeld
       have hHeld := hHeld2
       clear hHeld2
       (try simp only [Act.put, zZ])
       replace R := R25
       replace xo := xo.gr G25 hxg hLg
       replace yo := yo.gr G25 hyg hLg
       replace zr : RgAt w25 z 0 0 0 0 none 0 0 := RowAt.gr zr G25 hzg
       replace G := gr_trans G G25
       have hlo25 : lo ≤ w25.heap.size := Nat.le_trans hlo24 G25.size
       replace mv5 := mv_gr mv5 G25 (by omega)
       replace vec := mv5.vec rfl
       refine tZ (i:=8) (v:=.int .i64 (1 + m)) rfl (.inl ⟨by rfl, ?_⟩) hHeld ?_
       ·(intro w hSw; (try dsimp only at hSw); go_simp; (try exact IntWalk.i64_in _ (by omega)))
       (try simp only [Act.put, zZ])
       refine wpAnyH_ready (rs := [9]) (by kernel_rfl) (by simp) ?_
       refine (AllReadyH.cons (o := _) rfl (fun K hK => ?_) AllReadyH.nil)
       go_simp
       refine (l3Since_gen _ _ _ _ _ _ Y.us _ (1 + m) _ yo.upds vec (set_Short yo.2.2) (by have := M1.setOk_len yo.2.2; omega) (by omega) (by omega)).mono ?_
       rintro e w26 ⟨⟨v9, ns, rfl, own9, hnl, hsh⟩, hb9⟩
       obtain ⟨sv, sc, rfl, ms⟩ := MU.of_owns own9
       go_wp2_with fail
       refine hK.out _ _ (RowAt.below hHeld hb9) (fun hHeld2 => ?_)
       clear hK K hHeld
       have hHeld := hHeld2
       clear hHeld2
       (try simp only [Act.put, zZ])
       replace xo := xo.below hb9
       replace yo := yo.below hb9
       replace zr : RgAt w26 z 0 0 0 0 none 0 0 := zr.below hb9
       replace R := R.below hb9
       replace G : Gr g w w26 := gr_trans G (gr_below hb9)
       have hlo26 : lo ≤ w26.heap.size := Nat.le_trans hlo25 hb9.size
       refine wpAnyH_ready (rs := [11]) (by kernel_rfl) (by simp) ?_
       refine (AllReadyH.cons (o := _) rfl (fun K hK => ?_) AllReadyH.nil)
       go_simp
       refine (below_any _ _ _ _ _ _ R (by omega) (by omega)).mono ?_
       rintro e w27 ⟨now, rfl, hn0, hn1, R27, G27⟩
       go_wp2_with fail
       refine hK.out _ _ (RowAt.gr hHeld G27 hyg) (fun hHeld2 => ?_)
       clear hK K hHeld
       have hHeld := hHeld2
       clear hHeld2
       (try simp only [Act.put, zZ])
       replace R := R27
       replace xo := xo.gr G27 hxg hLg
       replace yo := yo.gr G27 hyg hLg
       replace zr : RgAt w27 z 0 0 0 0 none 0 0 := RowAt.gr zr G27 hzg
       replace G := gr_trans G G27
       have hlo27 : lo ≤ w27.heap.size := Nat.le_trans hlo26 G27.size
       replace ms := ms.off G27 (.inl (by omega))
       refine wpAnyH_ready (rs := [12]) (by kernel_rfl) (by simp) ?_
       refine (AllReadyH.cons (o := _) rfl (fun K hK => ?_) AllReadyH.nil)
       go_simp
       have js := received_spec X _ _ _ _ _ _ ns now _ xo.upds (ms.upds rfl hsh.max)
       unfold RcS RgD at js
       obtain ⟨T, hT⟩ : ∃ T, Hid (M1.rcR X ns now = T) := ⟨_, rfl⟩
       have hTs : M1.setOk T.us = true := by rw [← hT.out]; exact M1.rc_set _ _ _
       obtain ⟨kc, hK2⟩ : ∃ k, Hid (M1.rcC X ns now = k) := ⟨_, rfl⟩
       rw [hT.out, hK2.out] at js
       refine js.mono ?_
       clear js
       rintro e w28 ⟨⟨_, rfl, tv, tc, rfl, mb⟩, hbb⟩
       go_wp2_with fail
       refine hK.out _ _ (RowAt.below hHeld hbb) (fun hHeld2 => ?_)
       clear hK K hHeld
       have hHeld := hHeld2
       clear hHeld2
       (try simp only [Act.put, zZ])
       replace xo := xo.below hbb
       replace yo := yo.below hbb
       replace zr : RgAt w28 z 0 0 0 0 none 0 0 := zr.below hbb
       replace R := R.below hbb
       replace G : Gr g w w28 := gr_trans G (gr_below hbb)
       have hlo28 : lo ≤ w28.heap.size := Nat.le_trans hlo27 hbb.size
       have mb2 : MU w28 tv T.us.length tc lo w28.heap.size (ucell T.us) := mu_low mb hlo27
       refine tZ (i:=13) (v:=?_) rfl (.inl ⟨by rfl, ?_⟩) hHeld ?_
       rotate_left
       ·(intro w hSw; (try dsimp only at hSw); go_simp; try (with_reducible rfl))
       (try simp only [Act.put, zZ])
       refine tZ (i:=14) (v:=?_) rfl (.inl ⟨by rfl, ?_⟩) hHeld ?_
       rotate_left
       ·(intro w hSw; (try dsimp only at hSw); go_simp; try (with_reducible rfl))
       (try simp only [Act.put, zZ])
       refine tZ (i:=15) (v:=?_) rfl (.inl ⟨by rfl, ?_⟩) hHeld ?_
       rotate_left
       ·(intro w hSw; (try dsimp only at hSw); go_simp; try (with_reducible rfl))
       (try simp only [Act.put, zZ])
       obtain ⟨a0, a1, a2, a3, a4⟩ := RgAt.cells xo.1
       obtain ⟨b0, b1, b2, b3, b4⟩ := RgAt.frees xo.1
       have ml := xo.1.lt
       have n1 := RgO.put xo.1 T tv tc mb2 hTs hLx
       have n2 := yo.far hxy hLx (.int .i64 T.id) (.int .i64 T.a) (.int .i64 T.b) (.int .i64 T.c) (.slice tv T.us.length tc)
       have n3 : RgAt (((((w28.setCell ⟨px, 0, none⟩ (.int .i64 T.id)).setCell ⟨px, 1, none⟩ (.int .i64 T.a)).setCell ⟨px, 2, none⟩ (.int .i64 T.b)).setCell ⟨px, 3, none⟩ (.int .i64 T.c)).setCell ⟨px, 4, none⟩ (.slice tv T.us.length tc)) z 0 0 0 0 none 0 0 := far5 zr hxz _ _ _ _ _
       have n4 : Rdr (((((w28.setCell ⟨px, 0, none⟩ (.int .i64 T.id)).setCell ⟨px, 1, none⟩ (.int .i64 T.a)).setCell ⟨px, 2, none⟩ (.int .i64 T.b)).setCell ⟨px, 3, none⟩ (.int .i64 T.c)).setCell ⟨px, 4, none⟩ (.slice tv T.us.length tc)) g av len cap := rdr_put5 R hxg hnx _ _ _ _ _
       have n5 : Gr g w (((((w28.setCell ⟨px, 0, none⟩ (.int .i64 T.id)).setCell ⟨px, 1, none⟩ (.int .i64 T.a)).setCell ⟨px, 2, none⟩ (.int .i64 T.b)).setCell ⟨px, 3, none⟩ (.int .i64 T.c)).setCell ⟨px, 4, none⟩ (.slice tv T.us.length tc)) := gr_put5 G hxw _ _ _ _ _
       have hsz9 : lo ≤ (((((w28.setCell ⟨px, 0, none⟩ (.int .i64 T.id)).setCell ⟨px, 1, none⟩ (.int .i64 T.a)).setCell ⟨px, 2, none⟩ (.int .i64 T.b)).setCell ⟨px, 3, none⟩ (.int .i64 T.c)).setCell ⟨px, 4, none⟩ (.slice tv T.us.length tc)).heap.size := Nat.le_trans hlo28 (bel_put5 (Below.refl 0 w28) (Nat.zero_le px) _ _ _ _ _).size
       refine wpAnyH_ready (rs := [16]) (by kernel_rfl) (by simp) ?_
       refine AllReadyH.cons (o := _) rfl (fun K hK => ?_) AllReadyH.nil
       go_simp
       skip
       refine hK.out _ _ ?_ (fun hHeld2 => ?_)
       ·exact n2.1
       clear hK K hHeld
       have hHeld := hHeld2
       clear hHeld2
       (try simp only [Act.put, zZ])
       refine wpAnyH_done (by kernel_rfl) ?_ _
       clear hHeld a0 a1 a2 a3 a4 b0 b1 b2 b3 b4
       go_wp2_with fail
       exact ⟨⟨k - 1, T, Y, tv, vy, tc, cy, by omega, by omega, by go_num, hsz9, n1, n2, n3, n4, n5⟩, by simp [intOf]; omega⟩
      ·skip
       go_simp
       refine (l3Vector_gen _ _ _ X.us _ xo.upds (by have := M1.setOk_len xo.2.2; omega)).mono ?_
       rintro e w29 ⟨⟨v5, rfl, own5⟩, hb5⟩
       obtain ⟨dv, dc, rfl, mv5⟩ := MV.of_owns own5
       go_wp2_with fail
       refine hK.out _ _ (RowAt.below hHeld hb5) (fun hHeld2 => ?_)
       clear hK K hHeld
       have hHeld := hHeld2
       clear hHeld2
       (try simp only [Act.put, zZ])
       replace xo := xo.below hb5
       replace yo := yo.below hb5
       replace zr : RgAt w29 z 0 0 0 0 none 0 0 := zr.below hb5
       replace R := R.below hb5
       replace G : Gr g w w29 := gr_trans G (gr_below hb5)
       have hlo29 : lo ≤ w29.heap.size := Nat.le_trans hlo8 hb5.size
       have vec := mv5.vec rfl
       refine wpAnyH_ready (rs := [0, 7]) (by kernel_rfl) (by simp) ?_
       refine (AllReadyH.cons (o := _) rfl (fun K hK => ?_) (AllReadyH.cons (o := _) rfl (fun K hK => ?_) AllReadyH.nil))
       ·skip
        obtain ⟨a0, a1, a2, a3, a4⟩ := RgAt.cells xo.1
        have ml := xo.1.lt
        go_simp
        refine hK.out _ _ (hHeld) (fun hHeld2 => ?_)
        clear hK K hHeld
        have hHeld := hHeld2
        clear hHeld2
        (try simp only [Act.put, zZ])
        clear a0 a1 a2 a3 a4 ml
        refine wpAnyH_ready (rs := [7]) (by kernel_rfl) (by simp) ?_
        refine (AllReadyH.cons (o := _) rfl (fun K hK => ?_) AllReadyH.nil)
        go_simp
        refine (below_any _ _ _ _ _ _ R (by omega) (by omega)).mono ?_
        rintro e w30 ⟨m, rfl, hm2, hm3, R30, G30⟩
        go_wp2_with fail
        refine hK.out _ _ (RowAt.gr hHeld G30 hyg) (fun hHeld2 => ?_)
        clear hK K hHeld
        have hHeld := hHeld2
        clear hHeld2
        (try simp only [Act.put, zZ])
        replace R := R30
        replace xo := xo.gr G30 hxg hLg
        replace yo := yo.gr G30 hyg hLg
        replace zr : RgAt w30 z 0 0 0 0 none 0 0 := RowAt.gr zr G30 hzg
        replace G := gr_trans G G30
        have hlo30 : lo ≤ w30.heap.size := Nat.le_trans hlo29 G30.size
        replace mv5 := mv_gr mv5 G30 (by omega)
        replace vec := mv5.vec rfl
        refine tZ (i:=8) (v:=.int .i64 (1 + m)) rfl (.inl ⟨by rfl, ?_⟩) hHeld ?_
        ·(intro w hSw; (try dsimp only at hSw); go_simp; (try exact IntWalk.i64_in _ (by omega)))
        (try simp only [Act.put, zZ])
        refine wpAnyH_ready (rs := [9]) (by kernel_rfl) (by simp) ?_
        refine (AllReadyH.cons (o := _) rfl (fun K hK => ?_) AllReadyH.nil)
        go_simp
        refine (l3Since_gen _ _ _ _ _ _ Y.us _ (1 + m) _ yo.upds vec (set_Short yo.2.2) (by have := M1.setOk_len yo.2.2; omega) (by omega) (by omega)).mono ?_
        rintro e w31 ⟨⟨v9, ns, rfl, own9, hnl, hsh⟩, hb9⟩
        obtain ⟨sv, sc, rfl, ms⟩ := MU.of_owns own9
        go_wp2_with fail
        refine hK.out _ _ (RowAt.below hHeld hb9) (fun hHeld2 => ?_)
        clear hK K hHeld
        have hHeld := hHeld2
        clear hHeld2
        (try simp only [Act.put, zZ])
        replace xo := xo.below hb9
        replace yo := yo.below hb9
        replace zr : RgAt w31 z 0 0 0 0 none 0 0 := zr.below hb9
        replace R := R.below hb9
        replace G : Gr g w w31 := gr_trans G (gr_below hb9)
        have hlo31 : lo ≤ w31.heap.size := Nat.le_trans hlo30 hb9.size
        refine wpAnyH_ready (rs := [11]) (by kernel_rfl) (by simp) ?_
        refine (AllReadyH.cons (o := _) rfl (fun K hK => ?_) AllReadyH.nil)
        go_simp
        refine (below_any _ _ _ _ _ _ R (by omega) (by omega)).mono ?_
        rintro e w32 ⟨now, rfl, hn0, hn1, R32, G32⟩
        go_wp2_with fail
        refine hK.out _ _ (RowAt.gr hHeld G32 hyg) (fun hHeld2 => ?_)
        clear hK K hHeld
        have hHeld := hHeld2
        clear hHeld2
        (try simp only [Act.put, zZ])
        replace R := R32
        replace xo := xo.gr G32 hxg hLg
        replace yo := yo.gr G32 hyg hLg
        replace zr : RgAt w32 z 0 0 0 0 none 0 0 := RowAt.gr zr G32 hzg
        replace G := gr_trans G G32
        have hlo32 : lo ≤ w32.heap.size := Nat.le_trans hlo31 G32.size
        replace ms := ms.off G32 (.inl (by omega))
        refine wpAnyH_ready (rs := [12]) (by kernel_rfl) (by simp) ?_
        refine (AllReadyH.cons (o := _) rfl (fun K hK => ?_) AllReadyH.nil)
        go_simp
        have js := received_spec X _ _ _ _ _ _ ns now _ xo.upds (ms.upds rfl hsh.max)
        unfold RcS RgD at js
        obtain ⟨T, hT⟩ : ∃ T, Hid (M1.rcR X ns now = T) := ⟨_, rfl⟩
        have hTs : M1.setOk T.us = true := by rw [← hT.out]; exact M1.rc_set _ _ _
        obtain ⟨kc, hK2⟩ : ∃ k, Hid (M1.rcC X ns now = k) := ⟨_, rfl⟩
        rw [hT.out, hK2.out] at js
        refine js.mono ?_
        clear js
        rintro e w33 ⟨⟨_, rfl, tv, tc, rfl, mb⟩, hbb⟩
        go_wp2_with fail
        refine hK.out _ _ (RowAt.below hHeld hbb) (fun hHeld2 => ?_)
        clear hK K hHeld
        have hHeld := hHeld2
        clear hHeld2
        (try simp only [Act.put, zZ])
        replace xo := xo.below hbb
        replace yo := yo.below hbb
        replace zr : RgAt w33 z 0 0 0 0 none 0 0 := zr.below hbb
        replace R := R.below hbb
        replace G : Gr g w w33 := gr_trans G (gr_below hbb)
        have hlo33 : lo ≤ w33.heap.size := Nat.le_trans hlo32 hbb.size
        have mb2 : MU w33 tv T.us.length tc lo w33.heap.size (ucell T.us) := mu_low mb hlo32
        refine tZ (i:=13) (v:=?_) rfl (.inl ⟨by rfl, ?_⟩) hHeld ?_
        rotate_left
        ·(intro w hSw; (try dsimp only at hSw); go_simp; try (with_reducible rfl))
        (try simp only [Act.put, zZ])
        refine tZ (i:=14) (v:=?_) rfl (.inl ⟨by rfl, ?_⟩) hHeld ?_
        rotate_left
        ·(intro w hSw; (try dsimp only at hSw); go_simp; try (with_reducible rfl))
        (try simp only [Act.put, zZ])
        refine tZ (i:=15) (v:=?_) rfl (.inl ⟨by rfl, ?_⟩) hHeld ?_
        rotate_left
        ·(intro w hSw; (try dsimp only at hSw); go_simp; try (with_reducible rfl))
        (try simp only [Act.put, zZ])
        obtain ⟨a0, a1, a2, a3, a4⟩ := RgAt.cells xo.1
        obtain ⟨b0, b1, b2, b3, b4⟩ := RgAt.frees xo.1
        have ml := xo.1.lt
        have n1 := RgO.put xo.1 T tv tc mb2 hTs hLx
        have n2 := yo.far hxy hLx (.int .i64 T.id) (.int .i64 T.a) (.int .i64 T.b) (.int .i64 T.c) (.slice tv T.us.length tc)
        have n3 : RgAt (((((w33.setCell ⟨px, 0, none⟩ (.int .i64 T.id)).setCell ⟨px, 1, none⟩ (.int .i64 T.a)).setCell ⟨px, 2, none⟩ (.int .i64 T.b)).setCell ⟨px, 3, none⟩ (.int .i64 T.c)).setCell ⟨px, 4, none⟩ (.slice tv T.us.length tc)) z 0 0 0 0 none 0 0 := far5 zr hxz _ _ _ _ _
        have n4 : Rdr (((((w33.setCell ⟨px, 0, none⟩ (.int .i64 T.id)).setCell ⟨px, 1, none⟩ (.int .i64 T.a)).setCell ⟨px, 2, none⟩ (.int .i64 T.b)).setCell ⟨px, 3, none⟩ (.int .i64 T.c)).setCell ⟨px, 4, none⟩ (.slice tv T.us.length tc)) g av len cap := rdr_put5 R hxg hnx _ _ _ _ _
        have n5 : Gr g w (((((w33.setCell ⟨px, 0, none⟩ (.int .i64 T.id)).setCell ⟨px, 1, none⟩ (.int .i64 T.a)).setCell ⟨px, 2, none⟩ (.int .i64 T.b)).setCell ⟨px, 3, none⟩ (.int .i64 T.c)).setCell ⟨px, 4, none⟩ (.slice tv T.us.length tc)) := gr_put5 G hxw _ _ _ _ _
        have hsz9 : lo ≤ (((((w33.setCell ⟨px, 0, none⟩ (.int .i64 T.id)).setCell ⟨px, 1, none⟩ (.int .i64 T.a)).setCell ⟨px, 2, none⟩ (.int .i64 T.b)).setCell ⟨px, 3, none⟩ (.int .i64 T.c)).setCell ⟨px, 4, none⟩ (.slice tv T.us.length tc)).heap.size := Nat.le_trans hlo33 (bel_put5 (Below.refl 0 w33) (Nat.zero_le px) _ _ _ _ _).size
        refine wpAnyH_ready (rs := [16]) (by kernel_rfl) (by simp) ?_
        refine AllReadyH.cons (o := _) rfl (fun K hK => ?_) AllReadyH.nil
        go_simp
        skip
        refine hK.out _ _ ?_ (fun hHeld2 => ?_)
        ·exact n2.1
        clear hK K hHeld
        have hHeld := hHeld2
        clear hHeld2
        (try simp only [Act.put, zZ])
        refine wpAnyH_done (by kernel_rfl) ?_ _
        clear hHeld a0 a1 a2 a3 a4 b0 b1 b2 b3 b4
        go_wp2_with fail
        exact ⟨⟨k - 1, T, Y, tv, vy, tc, cy, by omega, by omega, by go_num, hsz9, n1, n2, n3, n4, n5⟩, by simp [intOf]; omega⟩
       ·skip
        go_simp
        refine (below_any _ _ _ _ _ _ R (by omega) (by omega)).mono ?_
        rintro e w34 ⟨m, rfl, hm2, hm3, R34, G34⟩
        go_wp2_with fail
        refine hK.out _ _ (RowAt.gr hHeld G34 hyg) (fun hHeld2 => ?_)
        clear hK K hHeld
        have hHeld := hHeld2
        clear hHeld2
        (try simp only [Act.put, zZ])
        replace R := R34
        replace xo := xo.gr G34 hxg hLg
        replace yo := yo.gr G34 hyg hLg
        replace zr : RgAt w34 z 0 0 0 0 none 0 0 := RowAt.gr zr G34 hzg
        replace G := gr_trans G G34
        have hlo34 : lo ≤ w34.heap.size := Nat.le_trans hlo29 G34.size
        replace mv5 := mv_gr mv5 G34 (by omega)
        replace vec := mv5.vec rfl
        refine tZ (i:=8) (v:=.int .i64 (1 + m)) rfl (.inl ⟨by rfl, ?_⟩) hHeld ?_
        ·(intro w hSw; (try dsimp only at hSw); go_simp; (try exact IntWalk.i64_in _ (by omega)))
        (try simp only [Act.put, zZ])
        refine wpAnyH_ready (rs := [0, 9]) (by kernel_rfl) (by simp) ?_
        refine (AllReadyH.cons (o := _) rfl (fun K hK => ?_) (AllReadyH.cons (o := _) rfl (fun K hK => ?_) AllReadyH.nil))
        ·skip
         obtain ⟨a0, a1, a2, a3, a4⟩ := RgAt.cells xo.1
         have ml := xo.1.lt
         go_simp
         refine hK.out _ _ (hHeld) (fun hHeld2 => ?_)
         clear hK K hHeld
         have hHeld := hHeld2
         clear hHeld2
         (try simp only [Act.put, zZ])
         clear a0 a1 a2 a3 a4 ml
         refine wpAnyH_ready (rs := [9]) (by kernel_rfl) (by simp) ?_
         refine (AllReadyH.cons (o := _) rfl (fun K hK => ?_) AllReadyH.nil)
         go_simp
         refine (l3Since_gen _ _ _ _ _ _ Y.us _ (1 + m) _ yo.upds vec (set_Short yo.2.2) (by have := M1.setOk_len yo.2.2; omega) (by omega) (by omega)).mono ?_
         rintro e w35 ⟨⟨v9, ns, rfl, own9, hnl, hsh⟩, hb9⟩
         obtain ⟨sv, sc, rfl, ms⟩ := MU.of_owns own9
         go_wp2_with fail
         refine hK.out _ _ (RowAt.below hHeld hb9) (fun hHeld2 => ?_)
         clear hK K hHeld
         have hHeld := hHeld2
         clear hHeld2
         (try simp only [Act.put, zZ])
         replace xo := xo.below hb9
         replace yo := yo.below hb9
         replace zr : RgAt w35 z 0 0 0 0 none 0 0 := zr.below hb9
         replace R := R.below hb9
         replace G : Gr g w w35 := gr_trans G (gr_below hb9)
         have hlo35 : lo ≤ w35.heap.size := Nat.le_trans hlo34 hb9.size
         refine wpAnyH_ready (rs := [11]) (by kernel_rfl) (by simp) ?_
         refine (AllReadyH.cons (o := _) rfl (fun K hK => ?_) AllReadyH.nil)
         go_simp
         refine (below_any _ _ _ _ _ _ R (by omega) (by omega)).mono ?_
         rintro e w36 ⟨now, rfl, hn0, hn1, R36, G36⟩
         go_wp2_with fail
         refine hK.out _ _ (RowAt.gr hHeld G36 hyg) (fun hHeld2 => ?_)
         clear hK K hHeld
         have hHeld := hHeld2
         clear hHeld2
         (try simp only [Act.put, zZ])
         replace R := R36
         replace xo := xo.gr G36 hxg hLg
         replace yo := yo.gr G36 hyg hLg
         replace zr : RgAt w36 z 0 0 0 0 none 0 0 := RowAt.gr zr G36 hzg
         replace G := gr_trans G G36
         have hlo36 : lo ≤ w36.heap.size := Nat.le_trans hlo35 G36.size
         replace ms := ms.off G36 (.inl (by omega))
         refine wpAnyH_ready (rs := [12]) (by kernel_rfl) (by simp) ?_
         refine (AllReadyH.cons (o := _) rfl (fun K hK => ?_) AllReadyH.nil)
         go_simp
         have js := received_spec X _ _ _ _ _ _ ns now _ xo.upds (ms.upds rfl hsh.max)
         unfold RcS RgD at js
         obtain ⟨T, hT⟩ : ∃ T, Hid (M1.rcR X ns now = T) := ⟨_, rfl⟩
         have hTs : M1.setOk T.us = true := by rw [← hT.out]; exact M1.rc_set _ _ _
         obtain ⟨kc, hK2⟩ : ∃ k, Hid (M1.rcC X ns now = k) := ⟨_, rfl⟩
         rw [hT.out, hK2.out] at js
         refine js.mono ?_
         clear js
         rintro e w37 ⟨⟨_, rfl, tv, tc, rfl, mb⟩, hbb⟩
         go_wp2_with fail
         refine hK.out _ _ (RowAt.below hHeld hbb) (fun hHeld2 => ?_)
         clear hK K hHeld
         have hHeld := hHeld2
         clear hHeld2
         (try simp only [Act.put, zZ])
         replace xo := xo.below hbb
         replace yo := yo.below hbb
         replace zr : RgAt w37 z 0 0 0 0 none 0 0 := zr.below hbb
         replace R := R.below hbb
         replace G : Gr g w w37 := gr_trans G (gr_below hbb)
         have hlo37 : lo ≤ w37.heap.size := Nat.le_trans hlo36 hbb.size
         have mb2 : MU w37 tv T.us.length tc lo w37.heap.size (ucell T.us) := mu_low mb hlo36
         refine tZ (i:=13) (v:=?_) rfl (.inl ⟨by rfl, ?_⟩) hHeld ?_
         rotate_left
         ·(intro w hSw; (try dsimp only at hSw); go_simp; try (with_reducible rfl))
         (try simp only [Act.put, zZ])
         refine tZ (i:=14) (v:=?_) rfl (.inl ⟨by rfl, ?_⟩) hHeld ?_
         rotate_left
         ·(intro w hSw; (try dsimp only at hSw); go_simp; try (with_reducible rfl))
         (try simp only [Act.put, zZ])
         refine tZ (i:=15) (v:=?_) rfl (.inl ⟨by rfl, ?_⟩) hHeld ?_
         rotate_left
         ·(intro w hSw; (try dsimp only at hSw); go_simp; try (with_reducible rfl))
         (try simp only [Act.put, zZ])
         obtain ⟨a0, a1, a2, a3, a4⟩ := RgAt.cells xo.1
         obtain ⟨b0, b1, b2, b3, b4⟩ := RgAt.frees xo.1
         have ml := xo.1.lt
         have n1 := RgO.put xo.1 T tv tc mb2 hTs hLx
         have n2 := yo.far hxy hLx (.int .i64 T.id) (.int .i64 T.a) (.int .i64 T.b) (.int .i64 T.c) (.slice tv T.us.length tc)
         have n3 : RgAt (((((w37.setCell ⟨px, 0, none⟩ (.int .i64 T.id)).setCell ⟨px, 1, none⟩ (.int .i64 T.a)).setCell ⟨px, 2, none⟩ (.int .i64 T.b)).setCell ⟨px, 3, none⟩ (.int .i64 T.c)).setCell ⟨px, 4, none⟩ (.slice tv T.us.length tc)) z 0 0 0 0 none 0 0 := far5 zr hxz _ _ _ _ _
         have n4 : Rdr (((((w37.setCell ⟨px, 0, none⟩ (.int .i64 T.id)).setCell ⟨px, 1, none⟩ (.int .i64 T.a)).setCell ⟨px, 2, none⟩ (.int .i64 T.b)).setCell ⟨px, 3, none⟩ (.int .i64 T.c)).setCell ⟨px, 4, none⟩ (.slice tv T.us.length tc)) g av len cap := rdr_put5 R hxg hnx _ _ _ _ _
         have n5 : Gr g w (((((w37.setCell ⟨px, 0, none⟩ (.int .i64 T.id)).setCell ⟨px, 1, none⟩ (.int .i64 T.a)).setCell ⟨px, 2, none⟩ (.int .i64 T.b)).setCell ⟨px, 3, none⟩ (.int .i64 T.c)).setCell ⟨px, 4, none⟩ (.slice tv T.us.length tc)) := gr_put5 G hxw _ _ _ _ _
         have hsz9 : lo ≤ (((((w37.setCell ⟨px, 0, none⟩ (.int .i64 T.id)).setCell ⟨px, 1, none⟩ (.int .i64 T.a)).setCell ⟨px, 2, none⟩ (.int .i64 T.b)).setCell ⟨px, 3, none⟩ (.int .i64 T.c)).setCell ⟨px, 4, none⟩ (.slice tv T.us.length tc)).heap.size := Nat.le_trans hlo37 (bel_put5 (Below.refl 0 w37) (Nat.zero_le px) _ _ _ _ _).size
         refine wpAnyH_ready (rs := [16]) (by kernel_rfl) (by simp) ?_
         refine AllReadyH.cons (o := _) rfl (fun K hK => ?_) AllReadyH.nil
         go_simp
         skip
         refine hK.out _ _ ?_ (fun hHeld2 => ?_)
         ·exact n2.1
         clear hK K hHeld
         have hHeld := hHeld2
         clear hHeld2
         (try simp only [Act.put, zZ])
         refine wpAnyH_done (by kernel_rfl) ?_ _
         clear hHeld a0 a1 a2 a3 a4 b0 b1 b2 b3 b4
         go_wp2_with fail
         exact ⟨⟨k - 1, T, Y, tv, vy, tc, cy, by omega, by omega, by go_num, hsz9, n1, n2, n3, n4, n5⟩, by simp [intOf]; omega⟩
        ·skip
         go_simp
         refine (l3Since_gen _ _ _ _ _ _ Y.us _ (1 + m) _ yo.upds vec (set_Short yo.2.2) (by have := M1.setOk_len yo.2.2; omega) (by omega) (by omega)).mono ?_
         rintro e w38 ⟨⟨v9, ns, rfl, own9, hnl, hsh⟩, hb9⟩
         obtain ⟨sv, sc, rfl, ms⟩ := MU.of_owns own9
         go_wp2_with fail
         refine hK.out _ _ (RowAt.below hHeld hb9) (fun hHeld2 => ?_)
         clear hK K hHeld
         have hHeld := hHeld2
         clear hHeld2
         (try simp only [Act.put, zZ])
         replace xo := xo.below hb9
         replace yo := yo.below hb9
         replace zr : RgAt w38 z 0 0 0 0 none 0 0 := zr.below hb9
         replace R := R.below hb9
         replace G : Gr g w w38 := gr_trans G (gr_below hb9)
         have hlo38 : lo ≤ w38.heap.size := Nat.le_trans hlo34 hb9.size
         refine wpAnyH_ready (rs := [0, 11]) (by kernel_rfl) (by simp) ?_
         refine (AllReadyH.cons (o := _) rfl (fun K hK => ?_) (AllReadyH.cons (o := _) rfl (fun K hK => ?_) AllReadyH.nil))
         ·skip
          obtain ⟨a0, a1, a2, a3, a4⟩ := RgAt.cells xo.1
          have ml := xo.1.lt
          go_simp
          refine hK.out _ _ (hHeld) (fun hHeld2 => ?_)
          clear hK K hHeld
          have hHeld := hHeld2
          clear hHeld2
          (try simp only [Act.put, zZ])
          clear a0 a1 a2 a3 a4 ml
          refine wpAnyH_ready (rs := [11]) (by kernel_rfl) (by simp) ?_
          refine (AllReadyH.cons (o := _) rfl (fun K hK => ?_) AllReadyH.nil)
          go_simp
          refine (below_any _ _ _ _ _ _ R (by omega) (by omega)).mono ?_
          rintro e w39 ⟨now, rfl, hn0, hn1, R39, G39⟩
          go_wp2_with fail
          refine hK.out _ _ (RowAt.gr hHeld G39 hyg) (fun hHeld2 => ?_)
          clear hK K hHeld
          have hHeld := hHeld2
          clear hHeld2
          (try simp only [Act.put, zZ])
          replace R := R39
          replace xo := xo.gr G39 hxg hLg
          replace yo := yo.gr G39 hyg hLg
          replace zr : RgAt w39 z 0 0 0 0 none 0 0 := RowAt.gr zr G39 hzg
          replace G := gr_trans G G39
          have hlo39 : lo ≤ w39.heap.size := Nat.le_trans hlo38 G39.size
          replace ms := ms.off G39 (.inl (by omega))
          refine wpAnyH_ready (rs := [12]) (by kernel_rfl) (by simp) ?_
          refine (AllReadyH.cons (o := _) rfl (fun K hK => ?_) AllReadyH.nil)
          go_simp
          have js := received_spec X _ _ _ _ _ _ ns now _ xo.upds (ms.upds rfl hsh.max)
          unfold RcS RgD at js
          obtain ⟨T, hT⟩ : ∃ T, Hid (M1.rcR X ns now = T) := ⟨_, rfl⟩
          have hTs : M1.setOk T.us = true := by rw [← hT.out]; exact M1.rc_set _ _ _
          obtain ⟨kc, hK2⟩ : ∃ k, Hid (M1.rcC X ns now = k) := ⟨_, rfl⟩
          rw [hT.out, hK2.out] at js
          refine js.mono ?_
          clear js
          rintro e w40 ⟨⟨_, rfl, tv, tc, rfl, mb⟩, hbb⟩
          go_wp2_with fail
          refine hK.out _ _ (RowAt.below hHeld hbb) (fun hHeld2 => ?_)
          clear hK K hHeld
          have hHeld := hHeld2
          clear hHeld2
          (try simp only [Act.put, zZ])
          replace xo := xo.below hbb
          replace yo := yo.below hbb
          replace zr : RgAt w40 z 0 0 0 0 none 0 0 := zr.below hbb
          replace R := R.below hbb
          replace G : Gr g w w40 := gr_trans G (gr_below hbb)
          have hlo40 : lo ≤ w40.heap.size := Nat.le_trans hlo39 hbb.size
          have mb2 : MU w40 tv T.us.length tc lo w40.heap.size (ucell T.us) := mu_low mb hlo39
          refine tZ (i:=13) (v:=?_) rfl (.inl ⟨by rfl, ?_⟩) hHeld ?_
          rotate_left
          ·(intro w hSw; (try dsimp only at hSw); go_simp; try (with_reducible rfl))
          (try simp only [Act.put, zZ])
          refine tZ (i:=14) (v:=?_) rfl (.inl ⟨by rfl, ?_⟩) hHeld ?_
          rotate_left
          ·(intro w hSw; (try dsimp only at hSw); go_simp; try (with_reducible rfl))
          (try simp only [Act.put, zZ])
          refine tZ (i:=15) (v:=?_) rfl (.inl ⟨by rfl, ?_⟩) hHeld ?_
          rotate_left
          ·(intro w hSw; (try dsimp only at hSw); go_simp; try (with_reducible rfl))
          (try simp only [Act.put, zZ])
          obtain ⟨a0, a1, a2, a3, a4⟩ := RgAt.cells xo.1
          obtain ⟨b0, b1, b2, b3, b4⟩ := RgAt.frees xo.1
          have ml := xo.1.lt
          have n1 := RgO.put xo.1 T tv tc mb2 hTs hLx
          have n2 := yo.far hxy hLx (.int .i64 T.id) (.int .i64 T.a) (.int .i64 T.b) (.int .i64 T.c) (.slice tv T.us.length tc)
          have n3 : RgAt (((((w40.setCell ⟨px, 0, none⟩ (.int .i64 T.id)).setCell ⟨px, 1, none⟩ (.int .i64 T.a)).setCell ⟨px, 2, none⟩ (.int .i64 T.b)).setCell ⟨px, 3, none⟩ (.int .i64 T.c)).setCell ⟨px, 4, none⟩ (.slice tv T.us.length tc)) z 0 0 0 0 none 0 0 := far5 zr hxz _ _ _ _ _
          have n4 : Rdr (((((w40.setCell ⟨px, 0, none⟩ (.int .i64 T.id)).setCell ⟨px, 1, none⟩ (.int .i64 T.a)).setCell ⟨px, 2, none⟩ (.int .i64 T.b)).setCell ⟨px, 3, none⟩ (.int .i64 T.c)).setCell ⟨px, 4, none⟩ (.slice tv T.us.length tc)) g av len cap := rdr_put5 R hxg hnx _ _ _ _ _
          have n5 : Gr g w (((((w40.setCell ⟨px, 0, none⟩ (.int .i64 T.id)).setCell ⟨px, 1, none⟩ (.int .i64 T.a)).setCell ⟨px, 2, none⟩ (.int .i64 T.b)).setCell ⟨px, 3, none⟩ (.int .i64 T.c)).setCell ⟨px, 4, none⟩ (.slice tv T.us.length tc)) := gr_put5 G hxw _ _ _ _ _
          have hsz9 : lo ≤ (((((w40.setCell ⟨px, 0, none⟩ (.int .i64 T.id)).setCell ⟨px, 1, none⟩ (.int .i64 T.a)).setCell ⟨px, 2, none⟩ (.int .i64 T.b)).setCell ⟨px, 3, none⟩ (.int .i64 T.c)).setCell ⟨px, 4, none⟩ (.slice tv T.us.length tc)).heap.size := Nat.le_trans hlo40 (bel_put5 (Below.refl 0 w40) (Nat.zero_le px) _ _ _ _ _).size
          refine wpAnyH_ready (rs := [16]) (by kernel_rfl) (by simp) ?_
          refine AllReadyH.cons (o := _) rfl (fun K hK => ?_) AllReadyH.nil
          go_simp
          skip
          refine hK.out _ _ ?_ (fun hHeld2 => ?_)
          ·exact n2.1
          clear hK K hHeld
          have hHeld := hHeld2
          clear hHeld2
          (try simp only [Act.put, zZ])
          refine wpAnyH_done (by kernel_rfl) ?_ _
          clear hHeld a0 a1 a2 a3 a4 b0 b1 b2 b3 b4
          go_wp2_with fail
          exact ⟨⟨k - 1, T, Y, tv, vy, tc, cy, by omega, by omega, by go_num, hsz9, n1, n2, n3, n4, n5⟩, by simp [intOf]; omega⟩
         ·skip
          go_simp
          refine (below_any _ _ _ _ _ _ R (by omega) (by omega)).mono ?_
          rintro e w41 ⟨now, rfl, hn0, hn1, R41, G41⟩
          go_wp2_with fail
          refine hK.out _ _ (RowAt.gr hHeld G41 hyg) (fun hHeld2 => ?_)
          clear hK K hHeld
          have hHeld := hHeld2
          clear hHeld2
          (try simp only [Act.put, zZ])
          replace R := R41
          replace xo := xo.gr G41 hxg hLg
          replace yo := yo.gr G41 hyg hLg
          replace zr : RgAt w41 z 0 0 0 0 none 0 0 := RowAt.gr zr G41 hzg
          replace G := gr_trans G G41
          have hlo41 : lo ≤ w41.heap.size := Nat.le_trans hlo38 G41.size
          replace ms := ms.off G41 (.inl (by omega))
          refine wpAnyH_ready (rs := [0]) (by kernel_rfl) (by simp) ?_
          refine (AllReadyH.cons (o := _) rfl (fun K hK => ?_) AllReadyH.nil)
          obtain ⟨a0, a1, a2, a3, a4⟩ := RgAt.cells xo.1
          have ml := xo.1.lt
          go_simp
          refine hK.out _ _ (hHeld) (fun hHeld2 => ?_)
          clear hK K hHeld
          have hHeld := hHeld2
          clear hHeld2
          (try simp only [Act.put, zZ])
          clear a0 a1 a2 a3 a4 ml
          refine wpAnyH_ready (rs := [12]) (by kernel_rfl) (by simp) ?_
          refine (AllReadyH.cons (o := _) rfl (fun K hK => ?_) AllReadyH.nil)
          go_simp
          have js := received_spec X _ _ _ _ _ _ ns now _ xo.upds (ms.upds rfl hsh.max)
          unfold RcS RgD at js
          obtain ⟨T, hT⟩ : ∃ T, Hid (M1.rcR X ns now = T) := ⟨_, rfl⟩
          have hTs : M1.setOk T.us = true := by rw [← hT.out]; exact M1.rc_set _ _ _
          obtain ⟨kc, hK2⟩ : ∃ k, Hid (M1.rcC X ns now = k) := ⟨_, rfl⟩
          rw [hT.out, hK2.out] at js
          refine js.mono ?_
          clear js
          rintro e w42 ⟨⟨_, rfl, tv, tc, rfl, mb⟩, hbb⟩
          go_wp2_with fail
          refine hK.out _ _ (RowAt.below hHeld hbb) (fun hHeld2 => ?_)
          clear hK K hHeld
          have hHeld := hHeld2
          clear hHeld2
          (try simp only [Act.put, zZ])
          replace xo := xo.below hbb
          replace yo := yo.below hbb
          replace zr : RgAt w42 z 0 0 0 0 none 0 0 := zr.below hbb
          replace R := R.below hbb
          replace G : Gr g w w42 := gr_trans G (gr_below hbb)
          have hlo42 : lo ≤ w42.heap.size := Nat.le_trans hlo41 hbb.size
          have mb2 : MU w42 tv T.us.length tc lo w42.heap.size (ucell T.us) := mu_low mb hlo41
          refine tZ (i:=13) (v:=?_) rfl (.inl ⟨by rfl, ?_⟩) hHeld ?_
          rotate_left
          ·(intro w hSw; (try dsimp only at hSw); go_simp; try (with_reducible rfl))
          (try simp only [Act.put, zZ])
          refine tZ (i:=14) (v:=?_) rfl (.inl ⟨by rfl, ?_⟩) hHeld ?_
          rotate_left
          ·(intro w hSw; (try dsimp only at hSw); go_simp; try (with_reducible rfl))
          (try simp only [Act.put, zZ])
          refine tZ (i:=15) (v:=?_) rfl (.inl ⟨by rfl, ?_⟩) hHeld ?_
          rotate_left
          ·(intro w hSw; (try dsimp only at hSw); go_simp; try (with_reducible rfl))
          (try simp only [Act.put, zZ])
          obtain ⟨a0, a1, a2, a3, a4⟩ := RgAt.cells xo.1
          obtain ⟨b0, b1, b2, b3, b4⟩ := RgAt.frees xo.1
          have ml := xo.1.lt
          have n1 := RgO.put xo.1 T tv tc mb2 hTs hLx
          have n2 := yo.far hxy hLx (.int .i64 T.id) (.int .i64 T.a) (.int .i64 T.b) (.int .i64 T.c) (.slice tv T.us.length tc)
          have n3 : RgAt (((((w42.setCell ⟨px, 0, none⟩ (.int .i64 T.id)).setCell ⟨px, 1, none⟩ (.int .i64 T.a)).setCell ⟨px, 2, none⟩ (.int .i64 T.b)).setCell ⟨px, 3, none⟩ (.int .i64 T.c)).setCell ⟨px, 4, none⟩ (.slice tv T.us.length tc)) z 0 0 0 0 none 0 0 := far5 zr hxz _ _ _ _ _
          have n4 : Rdr (((((w42.setCell ⟨px, 0, none⟩ (.int .i64 T.id)).setCell ⟨px, 1, none⟩ (.int .i64 T.a)).setCell ⟨px, 2, none⟩ (.int .i64 T.b)).setCell ⟨px, 3, none⟩ (.int .i64 T.c)).setCell ⟨px, 4, none⟩ (.slice tv T.us.length tc)) g av len cap := rdr_put5 R hxg hnx _ _ _ _ _
          have n5 : Gr g w (((((w42.setCell ⟨px, 0, none⟩ (.int .i64 T.id)).setCell ⟨px, 1, none⟩ (.int .i64 T.a)).setCell ⟨px, 2, none⟩ (.int .i64 T.b)).setCell ⟨px, 3, none⟩ (.int .i64 T.c)).setCell ⟨px, 4, none⟩ (.slice tv T.us.length tc)) := gr_put5 G hxw _ _ _ _ _
          have hsz9 : lo ≤ (((((w42.setCell ⟨px, 0, none⟩ (.int .i64 T.id)).setCell ⟨px, 1, none⟩ (.int .i64 T.a)).setCell ⟨px, 2, none⟩ (.int .i64 T.b)).setCell ⟨px, 3, none⟩ (.int .i64 T.c)).setCell ⟨px, 4, none⟩ (.slice tv T.us.length tc)).heap.size := Nat.le_trans hlo42 (bel_put5 (Below.refl 0 w42) (Nat.zero_le px) _ _ _ _ _).size
          refine wpAnyH_ready (rs := [16]) (by kernel_rfl) (by simp) ?_
          refine AllReadyH.cons (o := _) rfl (fun K hK => ?_) AllReadyH.nil
          go_simp
          skip
          refine hK.out _ _ ?_ (fun hHeld2 => ?_)
          ·exact n2.1
          clear hK K hHeld
          have hHeld := hHeld2
          clear hHeld2
          (try simp only [Act.put, zZ])
          refine wpAnyH_done (by kernel_rfl) ?_ _
          clear hHeld a0 a1 a2 a3 a4 b0 b1 b2 b3 b4
          go_wp2_with fail
          exact ⟨⟨k - 1, T, Y, tv, vy, tc, cy, by omega, by omega, by go_num, hsz9, n1, n2, n3, n4, n5⟩, by simp [intOf]; omega⟩
    ·have q1 : (s == 1) = false := by simp [s1]
     go_wp2_with fail
     refine wp_region_held_drew (S := fun w' => True) (by kernel_rfl) ?_ (fun hHeld => ?_)
     ·exact trivial
     refine tZ (i:=1) (v:=?_) rfl (.inl ⟨by rfl, ?_⟩) hHeld ?_
     rotate_left
     ·(intro w hSw; (try dsimp only at hSw); go_simp; try (with_reducible rfl))
     (try simp only [Act.put, zZ])
     refine tZ (i:=3) (v:=?_) rfl (.inl ⟨by rfl, ?_⟩) hHeld ?_
     rotate_left
     ·(intro w hSw; (try dsimp only at hSw); go_simp; try (with_reducible rfl))
     (try simp only [Act.put, zZ])
     obtain ⟨w8, hw8⟩ : ∃ W, w7.drew = W := ⟨_, rfl⟩
     have xo : RgO w8 px lo X vx cx := by rw [← hw8]; exact xo7.drew
     have yo : RgO w8 py lo Y vy cy := by rw [← hw8]; exact yo7.drew
     have zr : RgAt w8 z 0 0 0 0 none 0 0 := by rw [← hw8]; exact RowAt.drew z7
     have R : Rdr w8 g av len cap := by rw [← hw8]; exact R7.below (Below.refl _ w7).drew
     have G : Gr g w w8 := by rw [← hw8]; exact gr_drew Gw7
     have hlo8 : lo ≤ w8.heap.size := by rw [← hw8]; exact hlo7
     (try rw [hw8] at hHeld)
     rw [hw8]
     clear hw8 xo7 yo7 z7 R7 Gw7 hlo7
     refine wpAnyH_ready (rs := [0, 2]) (by kernel_rfl) (by simp) ?_
     refine (AllReadyH.cons (o := _) rfl (fun K hK => ?_) (AllReadyH.cons (o := _) rfl (fun K hK => ?_) AllReadyH.nil))
     ·skip
      obtain ⟨a0, a1, a2, a3, a4⟩ := RgAt.cells xo.1
      have ml := xo.1.lt
      go_simp
      refine hK.out _ _ (trivial) (fun hHeld2 => ?_)
      clear hK K hHeld
      have hHeld := hHeld2
      clear hHeld2
      (try simp only [Act.put, zZ])
      clear a0 a1 a2 a3 a4 ml
      refine wpAnyH_ready (rs := [2]) (by kernel_rfl) (by simp) ?_
      refine (AllReadyH.cons (o := _) rfl (fun K hK => ?_) AllReadyH.nil)
      go_simp
      refine (op_any _ _ _ _ _ R).mono ?_
      rintro e w43 ⟨⟨op, rfl, hop⟩, R43, G43⟩
      go_wp2_with fail
      refine hK.out _ _ (trivial) (fun hHeld2 => ?_)
      clear hK K hHeld
      have hHeld := hHeld2
      clear hHeld2
      (try simp only [Act.put, zZ])
      replace R := R43
      replace xo := xo.gr G43 hxg hLg
      replace yo := yo.gr G43 hyg hLg
      replace zr : RgAt w43 z 0 0 0 0 none 0 0 := RowAt.gr zr G43 hzg
      replace G := gr_trans G G43
      have hlo43 : lo ≤ w43.heap.size := Nat.le_trans hlo8 G43.size
      refine wpAnyH_ready (rs := [4]) (by kernel_rfl) (by simp) ?_
      refine (AllReadyH.cons (o := _) rfl (fun K hK => ?_) AllReadyH.nil)
      go_simp
      refine (below_any _ _ _ _ _ _ R (by omega) (by omega)).mono ?_
      rintro e w44 ⟨now, rfl, hn0, hn1, R44, G44⟩
      go_wp2_with fail
      refine hK.out _ _ (trivial) (fun hHeld2 => ?_)
      clear hK K hHeld
      have hHeld := hHeld2
      clear hHeld2
      (try simp only [Act.put, zZ])
      replace R := R44
      replace xo := xo.gr G44 hxg hLg
      replace yo := yo.gr G44 hyg hLg
      replace zr : RgAt w44 z 0 0 0 0 none 0 0 := RowAt.gr zr G44 hzg
      replace G := gr_trans G G44
      have hlo44 : lo ≤ w44.heap.size := Nat.le_trans hlo43 G44.size
      refine wpAnyH_ready (rs := [5]) (by kernel_rfl) (by simp) ?_
      refine (AllReadyH.cons (o := _) rfl (fun K hK => ?_) AllReadyH.nil)
      go_simp
      have js := issued_spec X op now _ _ _ _ xo.upds (by unfold maxLen; omega)
      unfold IsS RgD at js
      obtain ⟨T, hT⟩ : ∃ T, Hid (M1.isR X op now = T) := ⟨_, rfl⟩
      have hTs : M1.setOk T.us = true := by rw [← hT.out]; exact M1.is_set _ _ _
      obtain ⟨U, hU⟩ : ∃ u, Hid (M1.isU X op now = u) := ⟨_, rfl⟩
      obtain ⟨kc, hK2⟩ : ∃ k, Hid (M1.isC X op now = k) := ⟨_, rfl⟩
      rw [hT.out, hU.out, hK2.out] at js
      refine js.mono ?_
      clear js
      rintro e w45 ⟨⟨_, rfl, tv, tc, rfl, mb⟩, hbb⟩
      go_wp2_with fail
      refine hK.out _ _ (trivial) (fun hHeld2 => ?_)
      clear hK K hHeld
      have hHeld := hHeld2
      clear hHeld2
      (try simp only [Act.put, zZ])
      replace xo := xo.below hbb
      replace yo := yo.below hbb
      replace zr : RgAt w45 z 0 0 0 0 none 0 0 := zr.below hbb
      replace R := R.below hbb
      replace G : Gr g w w45 := gr_trans G (gr_below hbb)
      have hlo45 : lo ≤ w45.heap.size := Nat.le_trans hlo44 hbb.size
      have mb2 : MU w45 tv T.us.length tc lo w45.heap.size (ucell T.us) := mu_low mb hlo44
      refine tZ (i:=6) (v:=?_) rfl (.inl ⟨by rfl, ?_⟩) hHeld ?_
      rotate_left
      ·(intro w hSw; (try dsimp only at hSw); go_simp; try (with_reducible rfl))
      (try simp only [Act.put, zZ])
      refine tZ (i:=7) (v:=?_) rfl (.inl ⟨by rfl, ?_⟩) hHeld ?_
      rotate_left
      ·(intro w hSw; (try dsimp only at hSw); go_simp; try (with_reducible rfl))
      (try simp only [Act.put, zZ])
      refine tZ (i:=8) (v:=?_) rfl (.inl ⟨by rfl, ?_⟩) hHeld ?_
      rotate_left
      ·(intro w hSw; (try dsimp only at hSw); go_simp; try (with_reducible rfl))
      (try simp only [Act.put, zZ])
      refine tZ (i:=9) (v:=?_) rfl (.inl ⟨by rfl, ?_⟩) hHeld ?_
      rotate_left
      ·(intro w hSw; (try dsimp only at hSw); go_simp; try (with_reducible rfl))
      (try simp only [Act.put, zZ])
      obtain ⟨a0, a1, a2, a3, a4⟩ := RgAt.cells xo.1
      obtain ⟨b0, b1, b2, b3, b4⟩ := RgAt.frees xo.1
      have ml := xo.1.lt
      have n1 := RgO.put xo.1 T tv tc mb2 hTs hLx
      have n2 := yo.far hxy hLx (.int .i64 T.id) (.int .i64 T.a) (.int .i64 T.b) (.int .i64 T.c) (.slice tv T.us.length tc)
      have n3 : RgAt (((((w45.setCell ⟨px, 0, none⟩ (.int .i64 T.id)).setCell ⟨px, 1, none⟩ (.int .i64 T.a)).setCell ⟨px, 2, none⟩ (.int .i64 T.b)).setCell ⟨px, 3, none⟩ (.int .i64 T.c)).setCell ⟨px, 4, none⟩ (.slice tv T.us.length tc)) z 0 0 0 0 none 0 0 := far5 zr hxz _ _ _ _ _
      have n4 : Rdr (((((w45.setCell ⟨px, 0, none⟩ (.int .i64 T.id)).setCell ⟨px, 1, none⟩ (.int .i64 T.a)).setCell ⟨px, 2, none⟩ (.int .i64 T.b)).setCell ⟨px, 3, none⟩ (.int .i64 T.c)).setCell ⟨px, 4, none⟩ (.slice tv T.us.length tc)) g av len cap := rdr_put5 R hxg hnx _ _ _ _ _
      have n5 : Gr g w (((((w45.setCell ⟨px, 0, none⟩ (.int .i64 T.id)).setCell ⟨px, 1, none⟩ (.int .i64 T.a)).setCell ⟨px, 2, none⟩ (.int .i64 T.b)).setCell ⟨px, 3, none⟩ (.int .i64 T.c)).setCell ⟨px, 4, none⟩ (.slice tv T.us.length tc)) := gr_put5 G hxw _ _ _ _ _
      have hsz9 : lo ≤ (((((w45.setCell ⟨px, 0, none⟩ (.int .i64 T.id)).setCell ⟨px, 1, none⟩ (.int .i64 T.a)).setCell ⟨px, 2, none⟩ (.int .i64 T.b)).setCell ⟨px, 3, none⟩ (.int .i64 T.c)).setCell ⟨px, 4, none⟩ (.slice tv T.us.length tc)).heap.size := Nat.le_trans hlo45 (bel_put5 (Below.refl 0 w45) (Nat.zero_le px) _ _ _ _ _).size
      refine wpAnyH_ready (rs := [10]) (by kernel_rfl) (by simp) ?_
      refine AllReadyH.cons (o := _) rfl (fun K hK => ?_) AllReadyH.nil
      go_simp
      skip
      refine hK.out _ _ ?_ (fun hHeld2 => ?_)
      ·exact trivial
      clear hK K hHeld
      have hHeld := hHeld2
      clear hHeld2
      (try simp only [Act.put, zZ])
      refine wpAnyH_done (by kernel_rfl) ?_ _
      clear hHeld a0 a1 a2 a3 a4 b0 b1 b2 b3 b4
      go_wp2_with fail
      exact ⟨⟨k - 1, T, Y, tv, vy, tc, cy, by omega, by omega, by go_num, hsz9, n1, n2, n3, n4, n5⟩, by simp [intOf]; omega⟩
     ·skip
      go_simp
      refine (op_any _ _ _ _ _ R).mono ?_
      rintro e w46 ⟨⟨op, rfl, hop⟩, R46, G46⟩
      go_wp2_with fail
      refine hK.out _ _ (trivial) (fun hHeld2 => ?_)
      clear hK K hHeld
      have hHeld := hHeld2
      clear hHeld2
      (try simp only [Act.put, zZ])
      replace R := R46
      replace xo := xo.gr G46 hxg hLg
      replace yo := yo.gr G46 hyg hLg
      replace zr : RgAt w46 z 0 0 0 0 none 0 0 := RowAt.gr zr G46 hzg
      replace G := gr_trans G G46
      have hlo46 : lo ≤ w46.heap.size := Nat.le_trans hlo8 G46.size
      refine wpAnyH_ready (rs := [0, 4]) (by kernel_rfl) (by simp) ?_
      refine (AllReadyH.cons (o := _) rfl (fun K hK => ?_) (AllReadyH.cons (o := _) rfl (fun K hK => ?_) AllReadyH.nil))
      ·skip
       obtain ⟨a0, a1, a2, a3, a4⟩ := RgAt.cells xo.1
       have ml := xo.1.lt
       go_simp
       refine hK.out _ _ (trivial) (fun hHeld2 => ?_)
       clear hK K hHeld
       have hHeld := hHeld2
       clear hHeld2
       (try simp only [Act.put, zZ])
       clear a0 a1 a2 a3 a4 ml
       refine wpAnyH_ready (rs := [4]) (by kernel_rfl) (by simp) ?_
       refine (AllReadyH.cons (o := _) rfl (fun K hK => ?_) AllReadyH.nil)
       go_simp
       refine (below_any _ _ _ _ _ _ R (by omega) (by omega)).mono ?_
       rintro e w47 ⟨now, rfl, hn0, hn1, R47, G47⟩
       go_wp2_with fail
       refine hK.out _ _ (trivial) (fun hHeld2 => ?_)
       clear hK K hHeld
       have hHeld := hHeld2
       clear hHeld2
       (try simp only [Act.put, zZ])
       replace R := R47
       replace xo := xo.gr G47 hxg hLg
       replace yo := yo.gr G47 hyg hLg
       replace zr : RgAt w47 z 0 0 0 0 none 0 0 := RowAt.gr zr G47 hzg
       replace G := gr_trans G G47
       have hlo47 : lo ≤ w47.heap.size := Nat.le_trans hlo46 G47.size
       refine wpAnyH_ready (rs := [5]) (by kernel_rfl) (by simp) ?_
       refine (AllReadyH.cons (o := _) rfl (fun K hK => ?_) AllReadyH.nil)
       go_simp
       have js := issued_spec X op now _ _ _ _ xo.upds (by unfold maxLen; omega)
       unfold IsS RgD at js
       obtain ⟨T, hT⟩ : ∃ T, Hid (M1.isR X op now = T) := ⟨_, rfl⟩
       have hTs : M1.setOk T.us = true := by rw [← hT.out]; exact M1.is_set _ _ _
       obtain ⟨U, hU⟩ : ∃ u, Hid (M1.isU X op now = u) := ⟨_, rfl⟩
       obtain ⟨kc, hK2⟩ : ∃ k, Hid (M1.isC X op now = k) := ⟨_, rfl⟩
       rw [hT.out, hU.out, hK2.out] at js
       refine js.mono ?_
       clear js
       rintro e w48 ⟨⟨_, rfl, tv, tc, rfl, mb⟩, hbb⟩
       go_wp2_with fail
       refine hK.out _ _ (trivial) (fun hHeld2 => ?_)
       clear hK K hHeld
       have hHeld := hHeld2
       clear hHeld2
       (try simp only [Act.put, zZ])
       replace xo := xo.below hbb
       replace yo := yo.below hbb
       replace zr : RgAt w48 z 0 0 0 0 none 0 0 := zr.below hbb
       replace R := R.below hbb
       replace G : Gr g w w48 := gr_trans G (gr_below hbb)
       have hlo48 : lo ≤ w48.heap.size := Nat.le_trans hlo47 hbb.size
       have mb2 : MU w48 tv T.us.length tc lo w48.heap.size (ucell T.us) := mu_low mb hlo47
       refine tZ (i:=6) (v:=?_) rfl (.inl ⟨by rfl, ?_⟩) hHeld ?_
       rotate_left
       ·(intro w hSw; (try dsimp only at hSw); go_simp; try (with_reducible rfl))
       (try simp only [Act.put, zZ])
       refine tZ (i:=7) (v:=?_) rfl (.inl ⟨by rfl, ?_⟩) hHeld ?_
       rotate_left
       ·(intro w hSw; (try dsimp only at hSw); go_simp; try (with_reducible rfl))
       (try simp only [Act.put, zZ])
       refine tZ (i:=8) (v:=?_) rfl (.inl ⟨by rfl, ?_⟩) hHeld ?_
       rotate_left
       ·(intro w hSw; (try dsimp only at hSw); go_simp; try (with_reducible rfl))
       (try simp only [Act.put, zZ])
       refine tZ (i:=9) (v:=?_) rfl (.inl ⟨by rfl, ?_⟩) hHeld ?_
       rotate_left
       ·(intro w hSw; (try dsimp only at hSw); go_simp; try (with_reducible rfl))
       (try simp only [Act.put, zZ])
       obtain ⟨a0, a1, a2, a3, a4⟩ := RgAt.cells xo.1
       obtain ⟨b0, b1, b2, b3, b4⟩ := RgAt.frees xo.1
       have ml := xo.1.lt
       have n1 := RgO.put xo.1 T tv tc mb2 hTs hLx
       have n2 := yo.far hxy hLx (.int .i64 T.id) (.int .i64 T.a) (.int .i64 T.b) (.int .i64 T.c) (.slice tv T.us.length tc)
       have n3 : RgAt (((((w48.setCell ⟨px, 0, none⟩ (.int .i64 T.id)).setCell ⟨px, 1, none⟩ (.int .i64 T.a)).setCell ⟨px, 2, none⟩ (.int .i64 T.b)).setCell ⟨px, 3, none⟩ (.int .i64 T.c)).setCell ⟨px, 4, none⟩ (.slice tv T.us.length tc)) z 0 0 0 0 none 0 0 := far5 zr hxz _ _ _ _ _
       have n4 : Rdr (((((w48.setCell ⟨px, 0, none⟩ (.int .i64 T.id)).setCell ⟨px, 1, none⟩ (.int .i64 T.a)).setCell ⟨px, 2, none⟩ (.int .i64 T.b)).setCell ⟨px, 3, none⟩ (.int .i64 T.c)).setCell ⟨px, 4, none⟩ (.slice tv T.us.length tc)) g av len cap := rdr_put5 R hxg hnx _ _ _ _ _
       have n5 : Gr g w (((((w48.setCell ⟨px, 0, none⟩ (.int .i64 T.id)).setCell ⟨px, 1, none⟩ (.int .i64 T.a)).setCell ⟨px, 2, none⟩ (.int .i64 T.b)).setCell ⟨px, 3, none⟩ (.int .i64 T.c)).setCell ⟨px, 4, none⟩ (.slice tv T.us.length tc)) := gr_put5 G hxw _ _ _ _ _
       have hsz9 : lo ≤ (((((w48.setCell ⟨px, 0, none⟩ (.int .i64 T.id)).setCell ⟨px, 1, none⟩ (.int .i64 T.a)).setCell ⟨px, 2, none⟩ (.int .i64 T.b)).setCell ⟨px, 3, none⟩ (.int .i64 T.c)).setCell ⟨px, 4, none⟩ (.slice tv T.us.length tc)).heap.size := Nat.le_trans hlo48 (bel_put5 (Below.refl 0 w48) (Nat.zero_le px) _ _ _ _ _).size
       refine wpAnyH_ready (rs := [10]) (by kernel_rfl) (by simp) ?_
       refine AllReadyH.cons (o := _) rfl (fun K hK => ?_) AllReadyH.nil
       go_simp
       skip
       refine hK.out _ _ ?_ (fun hHeld2 => ?_)
       ·exact trivial
       clear hK K hHeld
       have hHeld := hHeld2
       clear hHeld2
       (try simp only [Act.put, zZ])
       refine wpAnyH_done (by kernel_rfl) ?_ _
       clear hHeld a0 a1 a2 a3 a4 b0 b1 b2 b3 b4
       go_wp2_with fail
       exact ⟨⟨k - 1, T, Y, tv, vy, tc, cy, by omega, by omega, by go_num, hsz9, n1, n2, n3, n4, n5⟩, by simp [intOf]; omega⟩
      ·skip
       go_simp
       refine (below_any _ _ _ _ _ _ R (by omega) (by omega)).mono ?_
       rintro e w49 ⟨now, rfl, hn0, hn1, R49, G49⟩
       go_wp2_with fail
       refine hK.out _ _ (trivial) (fun hHeld2 => ?_)
       clear hK K hHeld
       have hHeld := hHeld2
       clear hHeld2
       (try simp only [Act.put, zZ])
       replace R := R49
       replace xo := xo.gr G49 hxg hLg
       replace yo := yo.gr G49 hyg hLg
       replace zr : RgAt w49 z 0 0 0 0 none 0 0 := RowAt.gr zr G49 hzg
       replace G := gr_trans G G49
       have hlo49 : lo ≤ w49.heap.size := Nat.le_trans hlo46 G49.size
       refine wpAnyH_ready (rs := [0]) (by kernel_rfl) (by simp) ?_
       refine (AllReadyH.cons (o := _) rfl (fun K hK => ?_) AllReadyH.nil)
       obtain ⟨a0, a1, a2, a3, a4⟩ := RgAt.cells xo.1
       have ml := xo.1.lt
       go_simp
       refine hK.out _ _ (trivial) (fun hHeld2 => ?_)
       clear hK K hHeld
       have hHeld := hHeld2
       clear hHeld2
       (try simp only [Act.put, zZ])
       clear a0 a1 a2 a3 a4 ml
       refine wpAnyH_ready (rs := [5]) (by kernel_rfl) (by simp) ?_
       refine (AllReadyH.cons (o := _) rfl (fun K hK => ?_) AllReadyH.nil)
       go_simp
       have js := issued_spec X op now _ _ _ _ xo.upds (by unfold maxLen; omega)
       unfold IsS RgD at js
       obtain ⟨T, hT⟩ : ∃ T, Hid (M1.isR X op now = T) := ⟨_, rfl⟩
       have hTs : M1.setOk T.us = true := by rw [← hT.out]; exact M1.is_set _ _ _
       obtain ⟨U, hU⟩ : ∃ u, Hid (M1.isU X op now = u) := ⟨_, rfl⟩
       obtain ⟨kc, hK2⟩ : ∃ k, Hid (M1.isC X op now = k) := ⟨_, rfl⟩
       rw [hT.out, hU.out, hK2.out] at js
       refine js.mono ?_
       clear js
       rintro e w50 ⟨⟨_, rfl, tv, tc, rfl, mb⟩, hbb⟩
       go_wp2_with fail
       refine hK.out _ _ (trivial) (fun hHeld2 => ?_)
       clear hK K hHeld
       have hHeld := hHeld2
       clear hHeld2
       (try simp only [Act.put, zZ])
       replace xo := xo.below hbb
       replace yo := yo.below hbb
       replace zr : RgAt w50 z 0 0 0 0 none 0 0 := zr.below hbb
       replace R := R.below hbb
       replace G : Gr g w w50 := gr_trans G (gr_below hbb)
       have hlo50 : lo ≤ w50.heap.size := Nat.le_trans hlo49 hbb.size
       have mb2 : MU w50 tv T.us.length tc lo w50.heap.size (ucell T.us) := mu_low mb hlo49
       refine tZ (i:=6) (v:=?_) rfl (.inl ⟨by rfl, ?_⟩) hHeld ?_
       rotate_left
       ·(intro w hSw; (try dsimp only at hSw); go_simp; try (with_reducible rfl))
       (try simp only [Act.put, zZ])
       refine tZ (i:=7) (v:=?_) rfl (.inl ⟨by rfl, ?_⟩) hHeld ?_
       rotate_left
       ·(intro w hSw; (try dsimp only at hSw); go_simp; try (with_reducible rfl))
       (try simp only [Act.put, zZ])
       refine tZ (i:=8) (v:=?_) rfl (.inl ⟨by rfl, ?_⟩) hHeld ?_
       rotate_left
       ·(intro w hSw; (try dsimp only at hSw); go_simp; try (with_reducible rfl))
       (try simp only [Act.put, zZ])
       refine tZ (i:=9) (v:=?_) rfl (.inl ⟨by rfl, ?_⟩) hHeld ?_
       rotate_left
       ·(intro w hSw; (try dsimp only at hSw); go_simp; try (with_reducible rfl))
       (try simp only [Act.put, zZ])
       obtain ⟨a0, a1, a2, a3, a4⟩ := RgAt.cells xo.1
       obtain ⟨b0, b1, b2, b3, b4⟩ := RgAt.frees xo.1
       have ml := xo.1.lt
       have n1 := RgO.put xo.1 T tv tc mb2 hTs hLx
       have n2 := yo.far hxy hLx (.int .i64 T.id) (.int .i64 T.a) (.int .i64 T.b) (.int .i64 T.c) (.slice tv T.us.length tc)
       have n3 : RgAt (((((w50.setCell ⟨px, 0, none⟩ (.int .i64 T.id)).setCell ⟨px, 1, none⟩ (.int .i64 T.a)).setCell ⟨px, 2, none⟩ (.int .i64 T.b)).setCell ⟨px, 3, none⟩ (.int .i64 T.c)).setCell ⟨px, 4, none⟩ (.slice tv T.us.length tc)) z 0 0 0 0 none 0 0 := far5 zr hxz _ _ _ _ _
       have n4 : Rdr (((((w50.setCell ⟨px, 0, none⟩ (.int .i64 T.id)).setCell ⟨px, 1, none⟩ (.int .i64 T.a)).setCell ⟨px, 2, none⟩ (.int .i64 T.b)).setCell ⟨px, 3, none⟩ (.int .i64 T.c)).setCell ⟨px, 4, none⟩ (.slice tv T.us.length tc)) g av len cap := rdr_put5 R hxg hnx _ _ _ _ _
       have n5 : Gr g w (((((w50.setCell ⟨px, 0, none⟩ (.int .i64 T.id)).setCell ⟨px, 1, none⟩ (.int .i64 T.a)).setCell ⟨px, 2, none⟩ (.int .i64 T.b)).setCell ⟨px, 3, none⟩ (.int .i64 T.c)).setCell ⟨px, 4, none⟩ (.slice tv T.us.length tc)) := gr_put5 G hxw _ _ _ _ _
       have hsz9 : lo ≤ (((((w50.setCell ⟨px, 0, none⟩ (.int .i64 T.id)).setCell ⟨px, 1, none⟩ (.int .i64 T.a)).setCell ⟨px, 2, none⟩ (.int .i64 T.b)).setCell ⟨px, 3, none⟩ (.int .i64 T.c)).setCell ⟨px, 4, none⟩ (.slice tv T.us.length tc)).heap.size := Nat.le_trans hlo50 (bel_put5 (Below.refl 0 w50) (Nat.zero_le px) _ _ _ _ _).size
       refine wpAnyH_ready (rs := [10]) (by kernel_rfl) (by simp) ?_
       refine AllReadyH.cons (o := _) rfl (fun K hK => ?_) AllReadyH.nil
       go_simp
       skip
       refine hK.out _ _ ?_ (fun hHeld2 => ?_)
       ·exact trivial
       clear hK K hHeld
       have hHeld := hHeld2
       clear hHeld2
       (try simp only [Act.put, zZ])
       refine wpAnyH_done (by kernel_rfl) ?_ _
       clear hHeld a0 a1 a2 a3 a4 b0 b1 b2 b3 b4
       go_wp2_with fail
       exact ⟨⟨k - 1, T, Y, tv, vy, tc, cy, by omega, by omega, by go_num, hsz9, n1, n2, n3, n4, n5⟩, by simp [intOf]; omega⟩
  ·have hk9 : k = 0 := by omega
   subst hk9
   go_wp2_with fail
   refine (below_any _ _ _ _ _ _ R (by omega) (by omega)).mono ?_
   rintro e w7 ⟨s, rfl, hs0, hs3, R7, G7⟩
   have xo7 := xo.gr G7 hxg hLg
   have z7 : RgAt w7 z 0 0 0 0 none 0 0 := RowAt.gr zr G7 hzg
   have Gw7 := gr_trans G G7
   clear xo yo zr R G G7
   by_cases s38 : s = 38
   ·have q38 : (s == 38) = true := by simp [s38]
    go_wp2_with fail
    refine (off_any _ _ _ _ _ _ _ R7 (by omega) (by omega) (by omega)).mono ?_
    rintro e w8 ⟨t, rfl, _, _, R8, G8⟩
    have xo8 := xo7.gr G8 hxg hLg
    have z8 : RgAt w8 z 0 0 0 0 none 0 0 := RowAt.gr z7 G8 hzg
    have Gw8 := gr_trans Gw7 G8
    clear xo7 z7 R7 Gw7 G8
    obtain ⟨a0, a1, a2, a3, a4⟩ := RgAt.cells xo8.1
    obtain ⟨b0, b1, b2, b3, b4⟩ := RgAt.frees xo8.1
    have ml8 := xo8.1.lt
    have xoE : RgO (w8.setCell ⟨px, 1, none⟩ (.int .i64 t)) px lo (⟨X.id, t, X.b, X.c, X.us⟩ : M1.Rg) vx cx := ⟨rg_wall xo8.1 t, mu_one xo8.2.1 hLx _, xo8.2.2⟩
    have z9 : RgAt (w8.setCell ⟨px, 1, none⟩ (.int .i64 t)) z 0 0 0 0 none 0 0 := z8.far (p := ⟨px, 1, none⟩) hxz _
    have R9 : Rdr (w8.setCell ⟨px, 1, none⟩ (.int .i64 t)) g av len cap := rdr_new R8 hxg hnx 1 _
    have G9 : Gr g w (w8.setCell ⟨px, 1, none⟩ (.int .i64 t)) := gr_new Gw8 ⟨px, 1, none⟩ hxw _
    go_upto_region 17 with fail
    obtain ⟨w9, hw9⟩ : ∃ W, (w8.setCell ⟨px, 1, none⟩ (.int .i64 t)) = W := ⟨_, rfl⟩
    rw [hw9] at xoE z9 R9 G9 ⊢
    clear hw9 a0 a1 a2 a3 a4 b0 b1 b2 b3 b4
    obtain ⟨X2, hX2⟩ : ∃ x, x = (⟨X.id, t, X.b, X.c, X.us⟩ : M1.Rg) := ⟨_, rfl⟩
    rw [← hX2] at xoE
    clear hX2
    obtain ⟨a0, a1, a2, a3, a4⟩ := RgAt.cells xoE.1
    have ml := xoE.1.lt
    obtain ⟨e0, e1, e2, e3, e4⟩ := RgAt.cells z9
    obtain ⟨b0, b1, b2, b3, b4⟩ := RgAt.frees z9
    have zl := z9.lt
    have n1 := RgAt.put z9 X2.id X2.a X2.b X2.c vx X2.us.length cx
    have n2 : MU (((((w9.setCell ⟨z, 0, none⟩ (.int .i64 X2.id)).setCell ⟨z, 1, none⟩ (.int .i64 X2.a)).setCell ⟨z, 2, none⟩ (.int .i64 X2.b)).setCell ⟨z, 3, none⟩ (.int .i64 X2.c)).setCell ⟨z, 4, none⟩ (.slice vx X2.us.length cx)) vx X2.us.length cx lo (((((w9.setCell ⟨z, 0, none⟩ (.int .i64 X2.id)).setCell ⟨z, 1, none⟩ (.int .i64 X2.a)).setCell ⟨z, 2, none⟩ (.int .i64 X2.b)).setCell ⟨z, 3, none⟩ (.int .i64 X2.c)).setCell ⟨z, 4, none⟩ (.slice vx X2.us.length cx)).heap.size (ucell X2.us) := mu_put5 xoE.2.1 (fun q hq => mu_block xoE.2.1 hLz q hq) _ _ _ _ _
    have n4 : Rdr (((((w9.setCell ⟨z, 0, none⟩ (.int .i64 X2.id)).setCell ⟨z, 1, none⟩ (.int .i64 X2.a)).setCell ⟨z, 2, none⟩ (.int .i64 X2.b)).setCell ⟨z, 3, none⟩ (.int .i64 X2.c)).setCell ⟨z, 4, none⟩ (.slice vx X2.us.length cx)) g av len cap := rdr_put5 R9 hzg hnz _ _ _ _ _
    have n5 : Gr g w (((((w9.setCell ⟨z, 0, none⟩ (.int .i64 X2.id)).setCell ⟨z, 1, none⟩ (.int .i64 X2.a)).setCell ⟨z, 2, none⟩ (.int .i64 X2.b)).setCell ⟨z, 3, none⟩ (.int .i64 X2.c)).setCell ⟨z, 4, none⟩ (.slice vx X2.us.length cx)) := gr_put5 G9 hzw _ _ _ _ _
    go_wp2_with fail
    obtain ⟨Wz, hWz⟩ : ∃ W, (((((w9.setCell ⟨z, 0, none⟩ (.int .i64 X2.id)).setCell ⟨z, 1, none⟩ (.int .i64 X2.a)).setCell ⟨z, 2, none⟩ (.int .i64 X2.b)).setCell ⟨z, 3, none⟩ (.int .i64 X2.c)).setCell ⟨z, 4, none⟩ (.slice vx X2.us.length cx)) = W := ⟨_, rfl⟩
    rw [hWz] at n1 n2 n4 n5 ⊢
    clear hWz a0 a1 a2 a3 a4 b0 b1 b2 b3 b4 e0 e1 e2 e3 e4
    obtain ⟨v0, v1, v2, v3, v4⟩ := RgAt.cells n1
    refine bodyPost_ret (v := .agg #[.int .i64 X2.id, .int .i64 X2.a, .int .i64 X2.b, .int .i64 X2.c, .slice vx X2.us.length cx]) (by simp [results, Tryz.results40, go_sem, v0, v1, v2, v3, v4]) rfl ?_
    exact ⟨⟨X2, vx, cx, rfl, mu_low n2 hlw, xoE.2.2⟩, n4, n5⟩
   ·have q38 : (s == 38) = false := by simp [s38]
    by_cases s39 : s = 39
    ·have q39 : (s == 39) = true := by simp [s39]
     go_wp2_with fail
     refine (below_any _ _ _ _ _ _ R7 (by omega) (by omega)).mono ?_
     rintro e w8 ⟨t, rfl, ht0, ht1, R8, G8⟩
     have xo8 := xo7.gr G8 hxg hLg
     have z8 : RgAt w8 z 0 0 0 0 none 0 0 := RowAt.gr z7 G8 hzg
     have Gw8 := gr_trans Gw7 G8
     clear xo7 z7 R7 Gw7 G8
     obtain ⟨a0, a1, a2, a3, a4⟩ := RgAt.cells xo8.1
     obtain ⟨b0, b1, b2, b3, b4⟩ := RgAt.frees xo8.1
     have ml8 := xo8.1.lt
     have xoE : RgO (w8.setCell ⟨px, 2, none⟩ (.int .i64 (1000000 - t))) px lo (⟨X.id, X.a, 1000000 - t, X.c, X.us⟩ : M1.Rg) vx cx := ⟨rg_count xo8.1 (1000000 - t), mu_one xo8.2.1 hLx _, xo8.2.2⟩
     have z9 : RgAt (w8.setCell ⟨px, 2, none⟩ (.int .i64 (1000000 - t))) z 0 0 0 0 none 0 0 := z8.far (p := ⟨px, 2, none⟩) hxz _
     have R9 : Rdr (w8.setCell ⟨px, 2, none⟩ (.int .i64 (1000000 - t))) g av len cap := rdr_new R8 hxg hnx 2 _
     have G9 : Gr g w (w8.setCell ⟨px, 2, none⟩ (.int .i64 (1000000 - t))) := gr_new Gw8 ⟨px, 2, none⟩ hxw _
     go_upto_region 17 with fail
     obtain ⟨w9, hw9⟩ : ∃ W, (w8.setCell ⟨px, 2, none⟩ (.int .i64 (1000000 - t))) = W := ⟨_, rfl⟩
     rw [hw9] at xoE z9 R9 G9 ⊢
     clear hw9 a0 a1 a2 a3 a4 b0 b1 b2 b3 b4
     obtain ⟨X2, hX2⟩ : ∃ x, x = (⟨X.id, X.a, 1000000 - t, X.c, X.us⟩ : M1.Rg) := ⟨_, rfl⟩
     rw [← hX2] at xoE
     clear hX2
     obtain ⟨a0, a1, a2, a3, a4⟩ := RgAt.cells xoE.1
     have ml := xoE.1.lt
     obtain ⟨e0, e1, e2, e3, e4⟩ := RgAt.cells z9
     obtain ⟨b0, b1, b2, b3, b4⟩ := RgAt.frees z9
     have zl := z9.lt
     have n1 := RgAt.put z9 X2.id X2.a X2.b X2.c vx X2.us.length cx
     have n2 : MU (((((w9.setCell ⟨z, 0, none⟩ (.int .i64 X2.id)).setCell ⟨z, 1, none⟩ (.int .i64 X2.a)).setCell ⟨z, 2, none⟩ (.int .i64 X2.b)).setCell ⟨z, 3, none⟩ (.int .i64 X2.c)).setCell ⟨z, 4, none⟩ (.slice vx X2.us.length cx)) vx X2.us.length cx lo (((((w9.setCell ⟨z, 0, none⟩ (.int .i64 X2.id)).setCell ⟨z, 1, none⟩ (.int .i64 X2.a)).setCell ⟨z, 2, none⟩ (.int .i64 X2.b)).setCell ⟨z, 3, none⟩ (.int .i64 X2.c)).setCell ⟨z, 4, none⟩ (.slice vx X2.us.length cx)).heap.size (ucell X2.us) := mu_put5 xoE.2.1 (fun q hq => mu_block xoE.2.1 hLz q hq) _ _ _ _ _
     have n4 : Rdr (((((w9.setCell ⟨z, 0, none⟩ (.int .i64 X2.id)).setCell ⟨z, 1, none⟩ (.int .i64 X2.a)).setCell ⟨z, 2, none⟩ (.int .i64 X2.b)).setCell ⟨z, 3, none⟩ (.int .i64 X2.c)).setCell ⟨z, 4, none⟩ (.slice vx X2.us.length cx)) g av len cap := rdr_put5 R9 hzg hnz _ _ _ _ _
     have n5 : Gr g w (((((w9.setCell ⟨z, 0, none⟩ (.int .i64 X2.id)).setCell ⟨z, 1, none⟩ (.int .i64 X2.a)).setCell ⟨z, 2, none⟩ (.int .i64 X2.b)).setCell ⟨z, 3, none⟩ (.int .i64 X2.c)).setCell ⟨z, 4, none⟩ (.slice vx X2.us.length cx)) := gr_put5 G9 hzw _ _ _ _ _
     go_wp2_with fail
     obtain ⟨Wz, hWz⟩ : ∃ W, (((((w9.setCell ⟨z, 0, none⟩ (.int .i64 X2.id)).setCell ⟨z, 1, none⟩ (.int .i64 X2.a)).setCell ⟨z, 2, none⟩ (.int .i64 X2.b)).setCell ⟨z, 3, none⟩ (.int .i64 X2.c)).setCell ⟨z, 4, none⟩ (.slice vx X2.us.length cx)) = W := ⟨_, rfl⟩
     rw [hWz] at n1 n2 n4 n5 ⊢
     clear hWz a0 a1 a2 a3 a4 b0 b1 b2 b3 b4 e0 e1 e2 e3 e4
     obtain ⟨v0, v1, v2, v3, v4⟩ := RgAt.cells n1
     refine bodyPost_ret (v := .agg #[.int .i64 X2.id, .int .i64 X2.a, .int .i64 X2.b, .int .i64 X2.c, .slice vx X2.us.length cx]) (by simp [results, Tryz.results40, go_sem, v0, v1, v2, v3, v4]) rfl ?_
     exact ⟨⟨X2, vx, cx, rfl, mu_low n2 hlw, xoE.2.2⟩, n4, n5⟩
    ·have q39 : (s == 39) = false := by simp [s39]
     have xoE := xo7
     go_upto_region 17 with fail
     obtain ⟨a0, a1, a2, a3, a4⟩ := RgAt.cells xoE.1
     have ml := xoE.1.lt
     obtain ⟨e0, e1, e2, e3, e4⟩ := RgAt.cells z7
     obtain ⟨b0, b1, b2, b3, b4⟩ := RgAt.frees z7
     have zl := z7.lt
     have n1 := RgAt.put z7 X.id X.a X.b X.c vx X.us.length cx
     have n2 : MU (((((w7.setCell ⟨z, 0, none⟩ (.int .i64 X.id)).setCell ⟨z, 1, none⟩ (.int .i64 X.a)).setCell ⟨z, 2, none⟩ (.int .i64 X.b)).setCell ⟨z, 3, none⟩ (.int .i64 X.c)).setCell ⟨z, 4, none⟩ (.slice vx X.us.length cx)) vx X.us.length cx lo (((((w7.setCell ⟨z, 0, none⟩ (.int .i64 X.id)).setCell ⟨z, 1, none⟩ (.int .i64 X.a)).setCell ⟨z, 2, none⟩ (.int .i64 X.b)).setCell ⟨z, 3, none⟩ (.int .i64 X.c)).setCell ⟨z, 4, none⟩ (.slice vx X.us.length cx)).heap.size (ucell X.us) := mu_put5 xoE.2.1 (fun q hq => mu_block xoE.2.1 hLz q hq) _ _ _ _ _
     have n4 : Rdr (((((w7.setCell ⟨z, 0, none⟩ (.int .i64 X.id)).setCell ⟨z, 1, none⟩ (.int .i64 X.a)).setCell ⟨z, 2, none⟩ (.int .i64 X.b)).setCell ⟨z, 3, none⟩ (.int .i64 X.c)).setCell ⟨z, 4, none⟩ (.slice vx X.us.length cx)) g av len cap := rdr_put5 R7 hzg hnz _ _ _ _ _
     have n5 : Gr g w (((((w7.setCell ⟨z, 0, none⟩ (.int .i64 X.id)).setCell ⟨z, 1, none⟩ (.int .i64 X.a)).setCell ⟨z, 2, none⟩ (.int .i64 X.b)).setCell ⟨z, 3, none⟩ (.int .i64 X.c)).setCell ⟨z, 4, none⟩ (.slice vx X.us.length cx)) := gr_put5 Gw7 hzw _ _ _ _ _
     go_wp2_with fail
     obtain ⟨Wz, hWz⟩ : ∃ W, (((((w7.setCell ⟨z, 0, none⟩ (.int .i64 X.id)).setCell ⟨z, 1, none⟩ (.int .i64 X.a)).setCell ⟨z, 2, none⟩ (.int .i64 X.b)).setCell ⟨z, 3, none⟩ (.int .i64 X.c)).setCell ⟨z, 4, none⟩ (.slice vx X.us.length cx)) = W := ⟨_, rfl⟩
     rw [hWz] at n1 n2 n4 n5 ⊢
     clear hWz a0 a1 a2 a3 a4 b0 b1 b2 b3 b4 e0 e1 e2 e3 e4
     obtain ⟨v0, v1, v2, v3, v4⟩ := RgAt.cells n1
     refine bodyPost_ret (v := .agg #[.int .i64 X.id, .int .i64 X.a, .int .i64 X.b, .int .i64 X.c, .slice vx X.us.length cx]) (by simp [results, Tryz.results40, go_sem, v0, v1, v2, v3, v4]) rfl ?_
     exact ⟨⟨X, vx, cx, rfl, mu_low n2 hlw, xoE.2.2⟩, n4, n5⟩

end Go.Proofs.YtccendmoeelniaaGreatDoor
