/-
  Texts of one proof, joined: TkI.
-/
import Derived.Test.YtccendmoeelniaaGreatDoorZFSameOps32
import Derived.Test.YtccendmoeelniaaGreatDoorZFSameOps21
namespace Go.Proofs.YtccendmoeelniaaGreatDoor
open Go.ChangeShapes Go.WideShapes Go.ChangeAt Go.RowKit
set_option linter.unusedSimpArgs false
set_option linter.unusedVariables false
theorem MapN.set {w : World} {b : Nat} {us : List M1.Upd} (h : MapN w b us) {a : Addr} (ha : ¬ b = a.block) (u : Value) : MapN (w.setCell a u) b us :=
 h.block (Below.heap_setCell _ _ _ _ ha)

set_option maxHeartbeats 40000000 in
set_option maxRecDepth 100000 in
theorem taken_impl (av bv : Option Addr) (n cn m cm : Nat) (xs ys : List M1.Upd) (w : World) (h1 : IsUpds w av n cn xs) (h2 : IsUpds w bv m cm ys) :
  Calls Tryz.prog 22 #[.slice av n cn, .slice bv m cm] w fun e w' => Jd w w' e (M1.tL xs ys) (M1.tOk xs ys) ∧ Below w.heap.size w w' := by
 have hl2 : Hid (ys.length = m) := h2.hlen
 have hl1 : Hid (xs.length = n) := h1.hlen
 have hm3 := h2.hcap
 have hm4 := h2.hmost
 unfold maxLen at hm4
 by_cases hp : M1.tpre xs ys = true
 ·have HP : Hid (M1.tpre xs ys = true) := hp
  obtain ⟨hs1, hs2, hs3⟩ := M1.tpre_true hp
  have hm60 : m ≤ 60 := by have := hl2.out; omega
  have hgt : decide ((60 : Int) < (m : Int)) = false := decide_eq_false (by omega)
  have hgt2 : decide (60 < m) = false := decide_eq_false (by omega)
  have ha : Hid (M1.apart xs) := M1.ok_apart (M1.setOk_all hs1)
  have HX : Hid (∀ j, j < xs.length → M1.okAt xs j = true) := M1.setOk_all hs1
  have HY : Hid (∀ j, j < ys.length → M1.okU (M1.up ys j) = true) := M1.allR_all hs3
  have hx60 := M1.setOk_len hs1
  have HLEN : Hid ((M1.tkM xs ys ys.length).length ≤ 1000) := (by have := M1.tkM_len (xs := xs) (ys := ys) ys.length; omega : (M1.tkM xs ys ys.length).length ≤ 1000)
  have hr : Hid (∀ j, j < n → 1 ≤ (M1.up xs j).dr ∧ (M1.up xs j).dr ≤ 5) := fun j hj => by
   have := M1.ok_rg HX.out (j := j) (by rw [hl1.out]; exact hj)
   exact ⟨this.1, this.2.1⟩
  clear hx60 hs2
  go_enter Tryz.func22, Tryz.ntmps22
  go_wp2_with fail
  refine (setOk_impl _ _ _ _ _ h1).mono ?_
  rw [hs1]
  rintro e w1 ⟨rfl, hb1⟩
  go_wp2_with fail
  refine (allRight_any _ _ _ _ _ (h2.below hb1)).mono ?_
  rw [hs3]
  rintro e w2 ⟨rfl, hb2⟩
  have B2 := hb1.trans (hb2.mono hb1.size)
  clear hs1 hs3 hp
  go_wp2_with fail
  refine (setFromN_any _ _ _ _ _ (h1.below B2) ha).mono ?_
  rintro e w3 ⟨⟨b, rfl, hbb, hM3⟩, hb3⟩
  have B3 := B2.trans (hb3.mono B2.size)
  have hs2 := B2.size
  have hbl := hM3.lt
  go_wp2_with fail
  refine (lastOf_any _ _ _ _ _ (h1.below B3) hr).mono ?_
  rintro e w4 ⟨rfl, hb4⟩
  have B4 := B3.trans (hb4.mono B3.size)
  have hM4 := hM3.below hb4 hbl
  have hs4 := hb4.size
  go_wp2_with fail
  obtain ⟨p, hpe⟩ : ∃ p, p = w4.heap.size := ⟨_, rfl⟩
  obtain ⟨W5, hW5⟩ : ∃ W, W = (w4.alloc (.cells #[.int .i64 (M1.lastN xs n 1), .int .i64 (M1.lastN xs n 2), .int .i64 (M1.lastN xs n 3), .int .i64 (M1.lastN xs n 4), .int .i64 (M1.lastN xs n 5)] 96)) := ⟨_, rfl⟩
  have hb5 : Below w4.heap.size w4 W5 := by rw [hW5]; exact (Below.refl _ _).alloc (Nat.le_refl _) _
  have row5 : RowAt W5 p 5 (fun o => .int .i64 (M1.tkL xs ys 0 (o + 1))) := by
   rw [hW5, hpe]
   have e : M1.tkL xs ys 0 = M1.lastN xs n := by rw [← hl1.out]; rfl
   exact row5l w4 _ _ _ _ _ _ _ (by rw [e]; rfl) (by rw [e]; rfl) (by rw [e]; rfl) (by rw [e]; rfl) (by rw [e]; rfl)
  have hM5 : MapN W5 b (M1.tkM xs ys 0) := hM4.below hb5 (by omega)
  have B5 := B4.trans (hb5.mono B4.size)
  have hbp : ¬ b = p := by omega
  have hpw : w.heap.size ≤ p := by have := B4.size; omega
  have hbw : w.heap.size ≤ b := by omega
  rw [← hpe, ← hW5]
  clear hW5 hpe hM4 hM3 hb4 hb5 hs4 hbl hbb B2 B3 B4 hs2 hb3
  go_loopw [29] (fun i wr => ∃ k : Nat, k ≤ m ∧ i = .int .i64 k ∧ Below w.heap.size w wr ∧ MapN wr b (M1.tkM xs ys k) ∧ RowAt wr p 5 (fun o => .int .i64 (M1.tkL xs ys k (o + 1)))) (fun i _ => m - (intOf i).toNat)
  case atStart => exact ⟨0, Nat.zero_le _, rfl, B5, hM5, row5⟩
  case round =>
   clear hM5 B5 row5
   obtain ⟨k, hk, rfl, hB, hmap, row⟩ := hrel
   have hs0 := hmap.lt
   have hsz := hB.size
   have hpl := row.lt
   by_cases hlt : k < m
   ·have g1 := h2.below hB
    rcases g1.hlies with h0 | ⟨c, off, rfl, hb, hc⟩
    ·omega
    obtain ⟨c0, c1, c2, c3, c4, c5, c6, c7, c8, c9, c10, c11, c12⟩ := hc k hlt
    have i0 : (0 : Int) ≤ (k : Int) := by omega
    have i1 : (k : Int) < (m : Int) := by omega
    clear hc g1
    have hky : k < ys.length := by rw [hl2.out]; exact hlt
    obtain ⟨d1, d5, _, _⟩ := M1.okU_dot (HY.out k hky)
    have LB := (M1.tk_all HX.out HY.out k (by omega)).2.2.bd (M1.up ys k).dr
    have kd := row.cell (o := ((M1.up ys k).dr - 1).toNat) (by omega)
    have ed : ((((M1.up ys k).dr - 1).toNat : Nat) : Int) + 1 = (M1.up ys k).dr := by omega
    rw [ed] at kd
    obtain ⟨y, hy⟩ : ∃ y, Hid (M1.tkL xs ys k (M1.up ys k).dr = y) := ⟨_, rfl⟩
    rw [hy.out] at kd LB
    have j0 : (0 : Int) ≤ (M1.up ys k).dr - 1 := by omega
    have j1 : (M1.up ys k).dr - 1 < (5 : Int) := by omega
    have j2 : IntKind.i64.wrap ((M1.up ys k).dr - 1) = (M1.up ys k).dr - 1 := IntWalk.i64_in _ (by omega)
    have j3 : IntKind.i64.wrap (y + 1) = y + 1 := IntWalk.i64_in _ (by omega)
    clear ed
    go_wp2_with fail
    obtain ⟨WB, hWB⟩ : ∃ W, W = (wr.alloc (.cells #[.int .i64 (M1.up ys k).dr, .int .i64 (M1.up ys k).dn, .int .i64 (M1.up ys k).sw, .int .i64 (M1.up ys k).sc, .int .i64 (M1.up ys k).sr, .int .i64 (M1.up ys k).k, .int .i64 (M1.up ys k).tr, .int .i64 (M1.up ys k).id, .int .i64 (M1.up ys k).pa, .string (M1.up ys k).s, .int .i64 (M1.up ys k).st, .int .i64 (M1.up ys k).en, .int .i64 (M1.up ys k).lv] 38)) := ⟨_, rfl⟩
    have bbB : Below wr.heap.size wr WB := by rw [hWB]; exact (Below.refl _ _).alloc (Nat.le_refl _) _
    have hzB : WB.heap.size = wr.heap.size + 1 := by rw [hWB]; simp
    have rwB : RowAt WB wr.heap.size 13 (fun o => (#[.int .i64 (M1.up ys k).dr, .int .i64 (M1.up ys k).dn, .int .i64 (M1.up ys k).sw, .int .i64 (M1.up ys k).sc, .int .i64 (M1.up ys k).sr, .int .i64 (M1.up ys k).k, .int .i64 (M1.up ys k).tr, .int .i64 (M1.up ys k).id, .int .i64 (M1.up ys k).pa, .string (M1.up ys k).s, .int .i64 (M1.up ys k).st, .int .i64 (M1.up ys k).en, .int .i64 (M1.up ys k).lv] : Array Value).getD o undef) := by rw [hWB]; exact RowAt.new wr _ _
    rw [← hWB]
    have hmB := hmap.below bbB hs0
    have rowB := row.below bbB
    have hBB := hB.trans (bbB.mono hB.size)
    have kdB : WB.cell? ⟨p, ((M1.up ys k).dr - 1).toNat, none⟩ = some (.int .i64 y) := (bbB.cell (p := ⟨p, ((M1.up ys k).dr - 1).toNat, none⟩) hpl).trans kd
    have ed1 : ((M1.up ys k).dr - 1).toNat = (M1.up ys k).dr.toNat - 1 := by omega
    rw [ed1] at kdB
    clear hWB hmap row hB kd c0 c1 c2 c3 c4 c5 c6 c7 c8 c9 c10 c11 c12 bbB
    obtain ⟨q, hq⟩ : ∃ q, q = wr.heap.size := ⟨_, rfl⟩
    rw [← hq] at rwB hzB hs0 hsz hpl hb ⊢
    have hqB : q < WB.heap.size := by omega
    have hpB : p < WB.heap.size := by omega
    have hbB : b < WB.heap.size := by omega
    clear hq
    have x0 := rwB.cell (o := 0) (by omega)
    have x1 := rwB.cell (o := 1) (by omega)
    have x2 := rwB.cell (o := 2) (by omega)
    have x3 := rwB.cell (o := 3) (by omega)
    have x4 := rwB.cell (o := 4) (by omega)
    have x5 := rwB.cell (o := 5) (by omega)
    have x6 := rwB.cell (o := 6) (by omega)
    have x7 := rwB.cell (o := 7) (by omega)
    have x8 := rwB.cell (o := 8) (by omega)
    have x9 := rwB.cell (o := 9) (by omega)
    have x10 := rwB.cell (o := 10) (by omega)
    have x11 := rwB.cell (o := 11) (by omega)
    have x12 := rwB.cell (o := 12) (by omega)
    simp at x0 x1 x2 x3 x4 x5 x6 x7 x8 x9 x10 x11 x12
    have xl := rwB.lt
    have HBX : Hid (RowAt WB q 13 (fun o => (#[.int .i64 (M1.up ys k).dr, .int .i64 (M1.up ys k).dn, .int .i64 (M1.up ys k).sw, .int .i64 (M1.up ys k).sc, .int .i64 (M1.up ys k).sr, .int .i64 (M1.up ys k).k, .int .i64 (M1.up ys k).tr, .int .i64 (M1.up ys k).id, .int .i64 (M1.up ys k).pa, .string (M1.up ys k).s, .int .i64 (M1.up ys k).st, .int .i64 (M1.up ys k).en, .int .i64 (M1.up ys k).lv] : Array Value).getD o undef)) := rwB
    clear rwB x2 x3 x4 x5 x6 x7 x8 x9 x10 x11 x12
    by_cases hq : (M1.up ys k).dn = y + 1
    ·have hqH : Hid ((M1.up ys k).dn = y + 1) := hq
     clear hq
     refine wp_region_held_drew (S := fun w' => Kp WB w') (by kernel_rfl) ?_ (fun hHeld => ?_)
     ·exact kp_zero _
     refine tZ (i:=0) (v:=?_) rfl (.inl ⟨by rfl, ?_⟩) hHeld ?_
     rotate_left
     ·(intro w hSw; (try dsimp only at hSw); go_simp; try (with_reducible rfl))
     (try simp only [Act.put, zZ])
     refine tZ (i:=1) (v:=?_) rfl (.inl ⟨by rfl, ?_⟩) hHeld ?_
     rotate_left
     ·(intro w hSw; (try dsimp only at hSw); go_simp; try (with_reducible rfl))
     (try simp only [Act.put, zZ])
     refine tZ (i:=2) (v:=?_) rfl (.inl ⟨by rfl, ?_⟩) hHeld ?_
     rotate_left
     ·(intro w hSw; (try dsimp only at hSw); go_simp; try (with_reducible rfl))
     (try simp only [Act.put, zZ])
     refine tZ (i:=3) (v:=?_) rfl (.inl ⟨by rfl, ?_⟩) hHeld ?_
     rotate_left
     ·(intro w hSw; (try dsimp only at hSw); go_simp; try (with_reducible rfl))
     (try simp only [Act.put, zZ])
     refine tZ (i:=4) (v:=?_) rfl (.inl ⟨by rfl, ?_⟩) hHeld ?_
     rotate_left
     ·(intro w hSw; (try dsimp only at hSw); go_simp; try (with_reducible rfl))
     (try simp only [Act.put, zZ])
     refine tZ (i:=5) (v:=?_) rfl (.inl ⟨by rfl, ?_⟩) hHeld ?_
     rotate_left
     ·(intro w hSw; (try dsimp only at hSw); go_simp; try (with_reducible rfl))
     (try simp only [Act.put, zZ])
     refine tZ (i:=6) (v:=.int .i64 ((M1.up ys k).dr - 1)) rfl (.inl ⟨by rfl, ?_⟩) hHeld ?_
     ·(intro w hSw; (try dsimp only at hSw); go_simp; skip)
     (try simp only [Act.put, zZ])
     refine tZ (i:=7) (v:=.pointer (some ⟨p, ((M1.up ys k).dr - 1).toNat, none⟩)) rfl (.inl ⟨by rfl, ?_⟩) hHeld ?_
     ·(intro w hSw; (try dsimp only at hSw); go_simp; skip)
     (try simp only [Act.put, zZ])
     refine tZ (i:=8) (v:=.int .i64 y) rfl (.inl ⟨by rfl, ?_⟩) hHeld ?_
     ·(intro w hSw; (try dsimp only at hSw); go_simp; skip)
     (try simp only [Act.put, zZ])
     refine tZ (i:=9) (v:=.int .i64 (y + 1)) rfl (.inl ⟨by rfl, ?_⟩) hHeld ?_
     ·(intro w hSw; (try dsimp only at hSw); go_simp; skip)
     (try simp only [Act.put, zZ])
     refine tZ (i:=10) (v:=.bool true) rfl (.inl ⟨by rfl, ?_⟩) hHeld ?_
     ·(intro w hSw; (try dsimp only at hSw); go_simp; (first | exact hqH.out | simp [hqH.out]))
     (try simp only [Act.put, zZ])
     refine wpAnyH_done (by kernel_rfl) ?_ _
     have hK1 := hHeld.1
     clear hHeld
     generalize WB.drew = W1 at hK1 ⊢
     have hB1 := hBB.trans (hK1.mono hBB.size)
     have hm1 := hmB.below hK1 hbB
     have ro1 := rowB.below hK1
     have bx1 := HBX.out.below hK1
     have hs1 := hK1.size
     clear x0 x1 xl hK1 hmB rowB HBX hBB kdB
     have x0 := bx1.cell (o := 0) (by omega)
     have x1 := bx1.cell (o := 1) (by omega)
     have x2 := bx1.cell (o := 2) (by omega)
     have x3 := bx1.cell (o := 3) (by omega)
     have x4 := bx1.cell (o := 4) (by omega)
     have x5 := bx1.cell (o := 5) (by omega)
     have x6 := bx1.cell (o := 6) (by omega)
     have x7 := bx1.cell (o := 7) (by omega)
     have x8 := bx1.cell (o := 8) (by omega)
     have x9 := bx1.cell (o := 9) (by omega)
     have x10 := bx1.cell (o := 10) (by omega)
     have x11 := bx1.cell (o := 11) (by omega)
     have x12 := bx1.cell (o := 12) (by omega)
     simp at x0 x1 x2 x3 x4 x5 x6 x7 x8 x9 x10 x11 x12
     have xl := bx1.lt
     have hpl1 := ro1.lt
     have hfd : Hid (M1.fd (M1.tkM xs ys k) (M1.up ys k).dr (M1.up ys k).dn = none) := M1.tk_fd HX.out HY.out hky (by rw [hy.out]; exact hqH.out)
     have HM : Hid (M1.tkM xs ys (k + 1) = M1.putL (M1.tkM xs ys k) (M1.up ys k)) := (by rw [M1.tkM, hy.out, if_pos hqH.out] : M1.tkM xs ys (k + 1) = _)
     have HL : Hid (M1.tkL xs ys (k + 1) = fun r => if r = (M1.up ys k).dr then (M1.up ys k).dn else M1.tkL xs ys k r) := (by rw [M1.tkL, hy.out, if_pos hqH.out] : M1.tkL xs ys (k + 1) = _)
     go_wp2_with (at_mapUpdate; refine wpList_putN rfl _ _ _ rfl b (M1.tkM xs ys k) (M1.up ys k) rfl hm1 (fun x e => by rw [hfd.out] at e; cases e) rfl rfl ?_; intro w3 hm3 hg3; have ro3 := rowg ro1 hg3 (fun j e => by cases e; exact hbp); have bx3 := rowg bx1 hg3 (fun j e => by cases e; omega); have y0 := bx3.cell (o := 0) (by omega); have y1 := bx3.cell (o := 1) (by omega); simp at y0 y1; have hpl3 := ro3.lt; have hql3 := bx3.lt; have cd3 := ro3.cell (o := (M1.up ys k).dr.toNat - 1) (by omega); have fz3 := ro3.free (o := (M1.up ys k).dr.toNat - 1) (by omega))
     have hsw := hB1.size
     have hB3 : Below w.heap.size w w3 := hB1.grown hg3 hsw (fun j e => by cases e; omega)
     refine ⟨⟨k + 1, by omega, by go_num, hB3.setCell hpw _, ?_, ?_⟩, by simp [intOf]; omega⟩
     ·rw [HM.out]; exact hm3.set (a := ⟨p, _, none⟩) hbp _
     ·rw [HL.out]
      refine (ro3.set (o := (M1.up ys k).dr.toNat - 1) (by omega) (.int .i64 (M1.up ys k).dn)).same fun o ho => ?_
      by_cases e : o = (M1.up ys k).dr.toNat - 1
      ·have e2 : ((o : Nat) : Int) + 1 = (M1.up ys k).dr := by omega
       simp only [if_pos e, if_pos e2]
      ·have e2 : ¬ ((o : Nat) : Int) + 1 = (M1.up ys k).dr := by omega
       simp only [if_neg e, if_neg e2]
    ·have hqb : ((M1.up ys k).dn == y + 1) = false := by simp [hq]
     have HN : Hid (M1.tkM xs ys (k + 1) = M1.tkM xs ys k ∧ M1.tkL xs ys (k + 1) = M1.tkL xs ys k) := ⟨by rw [M1.tkM, hy.out, if_neg hq], by rw [M1.tkL, hy.out, if_neg hq]⟩
     refine wp_region_held_drew (S := fun w' => Kp WB w') (by kernel_rfl) ?_ (fun hHeld => ?_)
     ·exact kp_zero _
     refine tZ (i:=0) (v:=?_) rfl (.inl ⟨by rfl, ?_⟩) hHeld ?_
     rotate_left
     ·(intro w hSw; (try dsimp only at hSw); go_simp; try (with_reducible rfl))
     (try simp only [Act.put, zZ])
     refine tZ (i:=1) (v:=?_) rfl (.inl ⟨by rfl, ?_⟩) hHeld ?_
     rotate_left
     ·(intro w hSw; (try dsimp only at hSw); go_simp; try (with_reducible rfl))
     (try simp only [Act.put, zZ])
     refine tZ (i:=2) (v:=?_) rfl (.inl ⟨by rfl, ?_⟩) hHeld ?_
     rotate_left
     ·(intro w hSw; (try dsimp only at hSw); go_simp; try (with_reducible rfl))
     (try simp only [Act.put, zZ])
     refine tZ (i:=3) (v:=?_) rfl (.inl ⟨by rfl, ?_⟩) hHeld ?_
     rotate_left
     ·(intro w hSw; (try dsimp only at hSw); go_simp; try (with_reducible rfl))
     (try simp only [Act.put, zZ])
     refine tZ (i:=4) (v:=?_) rfl (.inl ⟨by rfl, ?_⟩) hHeld ?_
     rotate_left
     ·(intro w hSw; (try dsimp only at hSw); go_simp; try (with_reducible rfl))
     (try simp only [Act.put, zZ])
     refine tZ (i:=5) (v:=?_) rfl (.inl ⟨by rfl, ?_⟩) hHeld ?_
     rotate_left
     ·(intro w hSw; (try dsimp only at hSw); go_simp; try (with_reducible rfl))
     (try simp only [Act.put, zZ])
     refine tZ (i:=6) (v:=.int .i64 ((M1.up ys k).dr - 1)) rfl (.inl ⟨by rfl, ?_⟩) hHeld ?_
     ·(intro w hSw; (try dsimp only at hSw); go_simp; skip)
     (try simp only [Act.put, zZ])
     refine tZ (i:=7) (v:=.pointer (some ⟨p, ((M1.up ys k).dr - 1).toNat, none⟩)) rfl (.inl ⟨by rfl, ?_⟩) hHeld ?_
     ·(intro w hSw; (try dsimp only at hSw); go_simp; skip)
     (try simp only [Act.put, zZ])
     refine tZ (i:=8) (v:=.int .i64 y) rfl (.inl ⟨by rfl, ?_⟩) hHeld ?_
     ·(intro w hSw; (try dsimp only at hSw); go_simp; skip)
     (try simp only [Act.put, zZ])
     refine tZ (i:=9) (v:=.int .i64 (y + 1)) rfl (.inl ⟨by rfl, ?_⟩) hHeld ?_
     ·(intro w hSw; (try dsimp only at hSw); go_simp; skip)
     (try simp only [Act.put, zZ])
     refine tZ (i:=10) (v:=.bool false) rfl (.inl ⟨by rfl, ?_⟩) hHeld ?_
     ·(intro w hSw; (try dsimp only at hSw); go_simp; (try simp [hq]))
     (try simp only [Act.put, zZ])
     refine wpAnyH_done (by kernel_rfl) ?_ _
     have hK1 := hHeld.1
     clear hHeld
     have hB1 := hBB.trans (hK1.mono hBB.size)
     have hm1 := hmB.below hK1 hbB
     have ro1 := rowB.below hK1
     clear hK1
     go_wp2_with fail
     exact ⟨⟨k + 1, by omega, by go_num, hB1, by rw [HN.out.1]; exact hm1, by rw [HN.out.2]; exact ro1⟩, by simp [intOf]; omega⟩
   ·have hkm : Hid (k = ys.length) := (by have := hl2.out; omega : k = ys.length)
    rw [hkm.out] at hmap
    have T := M1.tk_all HX.out HY.out ys.length (Nat.le_refl _)
    have HSRT : Hid ((M1.tO xs ys).Pairwise M1.dd ∧ (M1.tkM xs ys ys.length).Perm (M1.tO xs ys)) := ⟨T.1, T.2.1⟩
    have htxt : ∀ i, i < (M1.tkM xs ys ys.length).length → (M1.up (M1.tkM xs ys ys.length) i).s.size ≤ 1000 := fun i hi => by
     have hm : M1.up (M1.tkM xs ys ys.length) i ∈ M1.tkM xs ys ys.length := by rw [up_get hi]; exact List.getElem_mem hi
     have := M1.tk_txt HP.out (Nat.le_refl _) (T.2.1.mem_iff.1 hm)
     omega
    clear T
    go_wp2_with fail
    refine (told_any b _ _ hmap htxt HLEN.out).mono ?_
    rintro e w4 ⟨ns, hpm, hso, hres, hb4⟩
    have hns : ns = M1.tO xs ys := M1.told_is HSRT.out.1 HSRT.out.2 hpm hso
    subst hns
    have hB4 := hB.trans (hb4.mono hB.size)
    clear hpm hso hmap htxt
    rcases hres with ⟨hok, av4, cap4, rfl, mu4⟩ | ⟨hok, rfl⟩
    ·have q := M1.t_yes HP.out hok
     have Q1 : Hid (M1.tOk xs ys = true) := q.1
     have Q2 : Hid (M1.tL xs ys = M1.tO xs ys) := q.2
     clear q hok
     go_wp2_with fail
     refine bodyPost_ret (v := .tuple #[.slice av4 (M1.tO xs ys).length cap4, .bool true]) (by simp [results, Tryz.results22, go_sem]) rfl ⟨?_, hB4⟩
     rw [Q1.out, Q2.out]
     exact ⟨av4, cap4, rfl, mu4.1, mu4.2.1, mu4.2.2.imp id fun ⟨g, e, h3, h4, r⟩ => ⟨g, e, by omega, h4, r⟩⟩
    ·have q := M1.t_not hok
     have Q1 : Hid (M1.tOk xs ys = false) := q.1
     have Q2 : Hid (M1.tL xs ys = []) := q.2
     clear q hok
     go_wp2_with fail
     refine bodyPost_ret (v := .tuple #[.slice none 0 0, .bool false]) (by simp [results, Tryz.results22, go_sem]) rfl ⟨?_, hB4⟩
     rw [Q1.out, Q2.out]
     exact jd_nil _ _
 ·replace hp : M1.tpre xs ys = false := by simpa using hp
  have q := M1.t_no hp
  rw [q.1, q.2]
  exact taken_no _ _ _ _ _ _ _ _ _ h1 h2 hp

end Go.Proofs.YtccendmoeelniaaGreatDoor
