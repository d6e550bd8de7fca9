/-
  Texts of one proof, joined: Wl2.
-/
import Derived.Test.YtgcinolbkllkkaaGreatZXWorldOk26
import Derived.Test.YtgcinolbkllkkaaGreatZXWorldOk08
import Derived.Test.YtgcinolbkllkkaaGreatZXWorldOk27
namespace M1
structure Ml where
 fr : Int
 tt : Int
 ask : Bool
 vec : List (Int × Int)
 del : List Upd

def zeroM : Ml := ⟨0, 0, false, [], []⟩

def mlA (ms : List Ml) (i : Nat) : Ml := ms.getD i zeroM

end M1
namespace Go.Proofs.YtgcinolbkllkkaaGreat
open Go.ChangeShapes Go.WideShapes Go.ChangeAt Go.RowKit
set_option linter.unusedSimpArgs false
set_option linter.unusedVariables false
abbrev R5 (w : World) (p : Nat) (x0 x1 x2 x3 x4 : Value) : Prop := RowAt w p 5 (fun o => [x0, x1, x2, x3, x4].getD o undef)

theorem r5_new (w : World) (x0 x1 x2 x3 x4 : Value) (t : TypeId) : R5 (w.alloc (.cells #[x0, x1, x2, x3, x4] t)) w.heap.size x0 x1 x2 x3 x4 :=
 (RowAt.new w #[x0, x1, x2, x3, x4] t).same fun o ho => by
  match o, ho with
  | 0, _ => rfl
  | 1, _ => rfl
  | 2, _ => rfl
  | 3, _ => rfl
  | 4, _ => rfl

theorem r5_cells {w : World} {p : Nat} {x0 x1 x2 x3 x4 : Value} (h : R5 w p x0 x1 x2 x3 x4) : w.cell? ⟨p, 0, none⟩ = some x0 ∧ w.cell? ⟨p, 1, none⟩ = some x1 ∧ w.cell? ⟨p, 2, none⟩ = some x2 ∧ w.cell? ⟨p, 3, none⟩ = some x3 ∧ w.cell? ⟨p, 4, none⟩ = some x4 := ⟨h.cell (o := 0) (by omega), h.cell (o := 1) (by omega), h.cell (o := 2) (by omega), h.cell (o := 3) (by omega), h.cell (o := 4) (by omega)⟩

abbrev R3 (w : World) (p : Nat) (x0 x1 x2 : Value) : Prop := RowAt w p 3 (fun o => [x0, x1, x2].getD o undef)

theorem r3_new (w : World) (x0 x1 x2 : Value) (t : TypeId) : R3 (w.alloc (.cells #[x0, x1, x2] t)) w.heap.size x0 x1 x2 :=
 (RowAt.new w #[x0, x1, x2] t).same fun o ho => by
  match o, ho with
  | 0, _ => rfl
  | 1, _ => rfl
  | 2, _ => rfl

theorem r3_cells {w : World} {p : Nat} {x0 x1 x2 : Value} (h : R3 w p x0 x1 x2) : w.cell? ⟨p, 0, none⟩ = some x0 ∧ w.cell? ⟨p, 1, none⟩ = some x1 ∧ w.cell? ⟨p, 2, none⟩ = some x2 := ⟨h.cell (o := 0) (by omega), h.cell (o := 1) (by omega), h.cell (o := 2) (by omega)⟩

theorem r3_free {w : World} {p : Nat} {x0 x1 x2 : Value} (h : R3 w p x0 x1 x2) : w.frozen? ⟨p, 0, none⟩ = false ∧ w.frozen? ⟨p, 1, none⟩ = false ∧ w.frozen? ⟨p, 2, none⟩ = false := ⟨h.free (o := 0) (by omega), h.free (o := 1) (by omega), h.free (o := 2) (by omega)⟩

theorem r3_set0 {w : World} {p : Nat} {x0 x1 x2 : Value} (h : R3 w p x0 x1 x2) (y : Value) : R3 (w.setCell ⟨p, 0, none⟩ y) p y x1 x2 :=
 RowAt.same (h.set (o := 0) (by omega) y) fun o ho => by
  match o, ho with
  | 0, _ => rfl
  | 1, _ => rfl
  | 2, _ => rfl

theorem r3_set1 {w : World} {p : Nat} {x0 x1 x2 : Value} (h : R3 w p x0 x1 x2) (y : Value) : R3 (w.setCell ⟨p, 1, none⟩ y) p x0 y x2 :=
 RowAt.same (h.set (o := 1) (by omega) y) fun o ho => by
  match o, ho with
  | 0, _ => rfl
  | 1, _ => rfl
  | 2, _ => rfl

theorem r3_set2 {w : World} {p : Nat} {x0 x1 x2 : Value} (h : R3 w p x0 x1 x2) (y : Value) : R3 (w.setCell ⟨p, 2, none⟩ y) p x0 x1 y :=
 RowAt.same (h.set (o := 2) (by omega) y) fun o ho => by
  match o, ho with
  | 0, _ => rfl
  | 1, _ => rfl
  | 2, _ => rfl

def MlC (w : World) (b o : Nat) (m : M1.Ml) : Prop := ∃ (v : Option Addr) (n c : Nat) (v2 : Option Addr) (n2 c2 : Nat), w.cell? ⟨b, o, none⟩ = some (.int .i64 m.fr) ∧ w.cell? ⟨b, o + 1, none⟩ = some (.int .i64 m.tt) ∧ w.cell? ⟨b, o + 2, none⟩ = some (.bool m.ask) ∧ w.cell? ⟨b, o + 3, none⟩ = some (.slice v n c) ∧ w.cell? ⟨b, o + 4, none⟩ = some (.slice v2 n2 c2) ∧ IsVec w v n c m.vec ∧ IsUpds w v2 n2 c2 m.del

theorem MlC.below {w w' : World} {b o : Nat} {m : M1.Ml} (h : MlC w b o m) (hb : Below w.heap.size w w') (hlt : b < w.heap.size) : MlC w' b o m := by
 obtain ⟨v, n, c, v2, n2, c2, h0, h1, h2, h3, h4, hv, hu⟩ := h
 exact ⟨v, n, c, v2, n2, c2, (hb.cell (p := ⟨b, o, none⟩) hlt).trans h0, (hb.cell (p := ⟨b, o + 1, none⟩) hlt).trans h1, (hb.cell (p := ⟨b, o + 2, none⟩) hlt).trans h2, (hb.cell (p := ⟨b, o + 3, none⟩) hlt).trans h3, (hb.cell (p := ⟨b, o + 4, none⟩) hlt).trans h4, hv.below hb, hu.below hb⟩

structure IsMls (w : World) (av : Option Addr) (len cap : Nat) (ms : List M1.Ml) : Prop where
 hlen : ms.length = len
 hcap : len ≤ cap
 hmost : cap ≤ maxLen
 hlies : len = 0 ∨ ∃ b off, av = some ⟨b, off, none⟩ ∧ b < w.heap.size ∧ ∀ i, i < len → MlC w b (off + i * 5) (M1.mlA ms i)

theorem IsMls.below {w w' : World} {av : Option Addr} {len cap : Nat} {ms : List M1.Ml} (h : IsMls w av len cap ms) (hb : Below w.heap.size w w') : IsMls w' av len cap ms :=
 ⟨h.hlen, h.hcap, h.hmost, h.hlies.imp (fun h => h) fun ⟨b, off, e, hlt, hc⟩ => ⟨b, off, e, Nat.lt_of_lt_of_le hlt hb.size, fun i hi => (hc i hi).below hb hlt⟩⟩

set_option maxHeartbeats 2000000 in
theorem szMail_any (m : M1.Ml) (v : Option Addr) (n c : Nat) (v2 : Option Addr) (n2 c2 : Nat) (left : Int) (w : World) (hv : IsVec w v n c m.vec) (hu : IsUpds w v2 n2 c2 m.del) (h0 : 0 ≤ left) (hl : left ≤ 1048576) :
  Calls Tryz.prog 75 #[.agg #[.int .i64 m.fr, .int .i64 m.tt, .bool m.ask, .slice v n c, .slice v2 n2 c2], .int .i64 left] w fun e w' => ((∃ r, n ≤ 1048576 ∧ n2 ≤ 1048576 ∧ 0 ≤ r ∧ r ≤ left ∧ e = .returned (.int .i64 r)) ∨ e = .returned (.int .i64 (-1))) ∧ Below w.heap.size w w' := by
 have hA : Below w.heap.size w (w.alloc (.cells #[.int .i64 m.fr, .int .i64 m.tt, .bool m.ask, .slice v n c, .slice v2 n2 c2] 138)) := (Below.refl _ _).alloc (Nat.le_refl _) _
 have P := r5_new w (.int .i64 m.fr) (.int .i64 m.tt) (.bool m.ask) (.slice v n c) (.slice v2 n2 c2) 138
 have hc1 := hv.hcap
 have hc2 := hv.hmost
 go_enter Tryz.func75, Tryz.ntmps75
 go_upto_region 1 with fail
 obtain ⟨W0, hW0⟩ : ∃ W, w.alloc (.cells #[.int .i64 m.fr, .int .i64 m.tt, .bool m.ask, .slice v n c, .slice v2 n2 c2] 138) = W := ⟨_, rfl⟩
 rw [hW0] at hA P ⊢
 clear hW0
 obtain ⟨d0, d1, d2, d3, d4⟩ := r5_cells P
 have pl := P.lt
 by_cases hn : (n : Int) ≤ left
 ·go_wp2_with fail
  refine (szDotS_yes _ _ _ _ _ hc1 hc2 h0 hl hn).mono ?_
  rintro e w1 ⟨rfl, hw1⟩
  obtain rfl := hw1.symm
  have hq : ¬ (left - (n : Int)) < 0 := by omega
  go_wp2_with fail
  refine (szUpdateS_any _ _ _ _ _ _ (hu.below hA) (by omega) (by omega)).mono ?_
  rintro e w2 ⟨⟨r, hm, hr0, hr1, rfl⟩ | rfl, hb2⟩
  ·have hr2 : ¬ r < 0 := by omega
   have B2 := hA.trans (hb2.mono hA.size)
   go_wp2_with fail
   go_ret
   exact ⟨Or.inl ⟨r, by omega, by omega, hr0, by omega, rfl⟩, B2⟩
  ·have B2 := hA.trans (hb2.mono hA.size)
   go_wp2_with fail
   go_ret
   exact ⟨Or.inr rfl, B2⟩
 ·go_wp2_with fail
  refine (szDotS_any _ _ _ _ _ hc1 hc2 h0 hl).mono ?_
  rintro e w1 ⟨⟨q, rfl⟩ | ⟨q, rfl⟩, hw1⟩
  ·exfalso; omega
  ·obtain rfl := hw1.symm
   go_wp2_with fail
   go_ret
   exact ⟨Or.inr rfl, hA⟩

set_option maxHeartbeats 4000000 in
theorem szMailS_any (av : Option Addr) (n cn : Nat) (ms : List M1.Ml) (left : Int) (w : World) (h1 : IsMls w av n cn ms) (h0 : 0 ≤ left) (hl : left ≤ 1048576) :
  Calls Tryz.prog 44 #[.slice av n cn, .int .i64 left] w fun e w' => ((∃ r, Hid ((n : Int) ≤ left ∧ ∀ i, i < n → (M1.mlA ms i).vec.length ≤ 1048576 ∧ (M1.mlA ms i).del.length ≤ 1048576) ∧ 0 ≤ r ∧ r ≤ left ∧ e = .returned (.int .i64 r)) ∨ e = .returned (.int .i64 (-1))) ∧ Below w.heap.size w w' := by
 have hm1 := h1.hcap
 have hm2 := h1.hmost
 unfold maxLen at hm2
 by_cases hn : (n : Int) ≤ left
 ·go_enter Tryz.func44, Tryz.ntmps44
  go_wp2_with fail
  go_loopw [1, 5] (fun r i wr => ∃ k : Nat, k ≤ n ∧ i = .int .i64 k ∧ Below w.heap.size w wr ∧ Hid (∀ i, i < k → (M1.mlA ms i).vec.length ≤ 1048576 ∧ (M1.mlA ms i).del.length ≤ 1048576) ∧ ∃ q : Int, 0 ≤ q ∧ q ≤ left ∧ r = .int .i64 q) (fun _ i _ => n - (intOf i).toNat)
  case atStart => exact ⟨0, Nat.zero_le _, rfl, Below.refl _ _, fun i hi => absurd hi (Nat.not_lt_zero _), left - n, by omega, by omega, rfl⟩
  case round =>
   obtain ⟨k, hk, rfl, hB, hall, q, hq0, hq1, rfl⟩ := hrel
   by_cases hlt : k < n
   ·have g1 := h1.below hB
    rcases g1.hlies with h0 | ⟨b, off, rfl, hb, hc⟩
    ·omega
    obtain ⟨v, m, c, v2, m2, c', c0, c1, c2, c3, c4, hv, hu⟩ := hc k hlt
    clear hc g1
    have i0 : (0 : Int) ≤ (k : Int) := by omega
    have i1 : (k : Int) < (n : Int) := by omega
    have hum : Hid ((M1.mlA ms k).vec.length = m ∧ (M1.mlA ms k).del.length = m2) := ⟨hv.hlen, hu.hlen⟩
    go_wp2_with fail
    refine (szMail_any (M1.mlA ms k) _ _ _ _ _ _ _ _ hv hu hq0 (by omega)).mono ?_
    rintro e w2 ⟨⟨r, hm, hm', hr0, hr1, rfl⟩ | rfl, hb2⟩
    ·have hB2 := hB.trans (hb2.mono hB.size)
     have hr2 : ¬ r < 0 := by omega
     have HA : Hid (∀ i, i < k + 1 → (M1.mlA ms i).vec.length ≤ 1048576 ∧ (M1.mlA ms i).del.length ≤ 1048576) := fun i hi => by
      by_cases e : i = k
      ·subst e; have := hum.out.1; have := hum.out.2; omega
      ·exact hall.out i (by omega)
     go_wp2_with fail
     exact ⟨⟨k + 1, by omega, by go_num, hB2, HA, r, hr0, by omega, rfl⟩, by simp [intOf]; omega⟩
    ·have hB2 := hB.trans (hb2.mono hB.size)
     go_wp2_with fail
     go_ret
     exact ⟨Or.inr rfl, hB2⟩
   ·have HN : Hid ((n : Int) ≤ left ∧ ∀ i, i < n → (M1.mlA ms i).vec.length ≤ 1048576 ∧ (M1.mlA ms i).del.length ≤ 1048576) := ⟨hn, fun i hi => hall.out i (by omega)⟩
    go_wp2_with fail
    go_ret
    exact ⟨Or.inl ⟨q, HN, hq0, hq1, rfl⟩, hB⟩
 ·go_enter Tryz.func44, Tryz.ntmps44
  go_wp2_with fail
  go_ret
  exact ⟨Or.inr rfl, Below.refl _ _⟩

set_option maxHeartbeats 4000000 in
theorem eqMail_self (m : M1.Ml) (v v' : Option Addr) (n c c' : Nat) (v2 v2' : Option Addr) (n2 c2 c2' : Nat) (w : World) (hv : IsVec w v n c m.vec) (hu : IsUpds w v2 n2 c2 m.del) (hv' : IsVec w v' n c' m.vec) (hu' : IsUpds w v2' n2 c2' m.del) :
  Calls Tryz.prog 79 #[.agg #[.int .i64 m.fr, .int .i64 m.tt, .bool m.ask, .slice v n c, .slice v2 n2 c2], .agg #[.int .i64 m.fr, .int .i64 m.tt, .bool m.ask, .slice v' n c', .slice v2' n2 c2']] w fun e w' => e = .returned (.bool true) ∧ Below w.heap.size w w' := by
 have hA : Below w.heap.size w ((w.alloc (.cells #[.int .i64 m.fr, .int .i64 m.tt, .bool m.ask, .slice v n c, .slice v2 n2 c2] 62)).alloc (.cells #[.int .i64 m.fr, .int .i64 m.tt, .bool m.ask, .slice v' n c', .slice v2' n2 c2'] 62)) := ((Below.refl _ _).alloc (Nat.le_refl _) _).alloc (by simp) _
 have P := (r5_new w (.int .i64 m.fr) (.int .i64 m.tt) (.bool m.ask) (.slice v n c) (.slice v2 n2 c2) 62).alloc (.cells #[.int .i64 m.fr, .int .i64 m.tt, .bool m.ask, .slice v' n c', .slice v2' n2 c2'] 62)
 have P2 := r5_new (w.alloc (.cells #[.int .i64 m.fr, .int .i64 m.tt, .bool m.ask, .slice v n c, .slice v2 n2 c2] 62)) (.int .i64 m.fr) (.int .i64 m.tt) (.bool m.ask) (.slice v' n c') (.slice v2' n2 c2') 62
 rw [show (w.alloc (.cells #[.int .i64 m.fr, .int .i64 m.tt, .bool m.ask, .slice v n c, .slice v2 n2 c2] 62)).heap.size = w.heap.size + 1 by simp] at P2
 have e1 : (m.fr != m.fr) = false := by simp
 have e2 : (m.tt != m.tt) = false := by simp
 have e3 : (m.ask != m.ask) = false := by simp
 go_enter Tryz.func79, Tryz.ntmps79
 go_upto_region 1 with fail
 obtain ⟨W0, hW0⟩ : ∃ W, (w.alloc (.cells #[.int .i64 m.fr, .int .i64 m.tt, .bool m.ask, .slice v n c, .slice v2 n2 c2] 62)).alloc (.cells #[.int .i64 m.fr, .int .i64 m.tt, .bool m.ask, .slice v' n c', .slice v2' n2 c2'] 62) = W := ⟨_, rfl⟩
 rw [hW0] at hA P P2 ⊢
 clear hW0
 obtain ⟨d0, d1, d2, d3, d4⟩ := r5_cells P
 have pl := P.lt
 obtain ⟨k0, k1, k2, k3, k4⟩ := r5_cells P2
 have kl := P2.lt
 go_wp2_with fail
 refine (eqDotS_same _ _ _ _ _ m.vec m.vec _ (hv.below hA) (hv'.below hA)).mono ?_
 rw [decide_eq_true (rfl : m.vec = m.vec)]
 rintro e w1 ⟨rfl, hb1⟩
 have B1 := hA.trans (hb1.mono hA.size)
 have Q := RowAt.below P hb1
 have Q2 := RowAt.below P2 hb1
 clear d0 d1 d2 d3 d4 k0 k1 k2 k3 k4 pl kl
 obtain ⟨d0, d1, d2, d3, d4⟩ := r5_cells Q
 have pl := Q.lt
 obtain ⟨k0, k1, k2, k3, k4⟩ := r5_cells Q2
 have kl := Q2.lt
 go_wp2_with fail
 refine (eqUpdateS_self _ _ _ _ _ m.del _ (hu.below B1) (hu'.below B1)).mono ?_
 rintro e w2 ⟨rfl, hb2⟩
 have B2 := B1.trans (hb2.mono B1.size)
 go_wp2_with fail
 go_ret
 exact ⟨rfl, B2⟩

set_option maxHeartbeats 4000000 in
theorem eqMailS_self (av bv : Option Addr) (n cn cm : Nat) (ms : List M1.Ml) (w : World) (h1 : IsMls w av n cn ms) (h2 : IsMls w bv n cm ms) :
  Calls Tryz.prog 48 #[.slice av n cn, .slice bv n cm] w fun e w' => e = .returned (.bool true) ∧ Below w.heap.size w w' := by
 have hm1 := h1.hcap
 have hm2 := h1.hmost
 have hm3 := h2.hcap
 have hm4 := h2.hmost
 unfold maxLen at hm2 hm4
 have hnb : ((n : Int) != (n : Int)) = false := by simp
 go_enter Tryz.func48, Tryz.ntmps48
 go_wp2
 go_loopw [5] (fun i wr => ∃ k : Nat, k ≤ n ∧ i = .int .i64 k ∧ Below w.heap.size w wr) (fun i _ => n - (intOf i).toNat)
 case atStart => exact ⟨0, Nat.zero_le _, rfl, Below.refl _ _⟩
 case round =>
  obtain ⟨k, hk, rfl, hB⟩ := hrel
  by_cases hlt : k < n
  ·have g1 := h1.below hB
   have g2 := h2.below hB
   rcases g1.hlies with h0 | ⟨b, off, rfl, hb, hc⟩
   ·omega
   rcases g2.hlies with h0 | ⟨b2, off2, rfl, hb2, hc2⟩
   ·omega
   obtain ⟨v, m, c, v2, m2, c', c0, c1, c2, c3, c4, hv, hu⟩ := hc k hlt
   obtain ⟨v', m', k', v2', m2', k2', d0, d1, d2, d3, d4, hv', hu'⟩ := hc2 k hlt
   obtain rfl : m = m' := hv.hlen.symm.trans hv'.hlen
   obtain rfl : m2 = m2' := hu.hlen.symm.trans hu'.hlen
   clear hc hc2 g1 g2
   have i0 : (0 : Int) ≤ (k : Int) := by omega
   have i1 : (k : Int) < (n : Int) := by omega
   obtain ⟨r, hr⟩ : ∃ r, Hid (M1.mlA ms k = r) := ⟨_, rfl⟩
   rw [hr.out] at c0 c1 c2 d0 d1 d2 hv hu hv' hu'
   go_wp2_with fail
   refine wp_region_held_drew (S := fun w' => Kp wr w') (by kernel_rfl) ?_ (fun hHeld => ?_)
   ·exact kp_zero _
   refine tZ (i:=0) (v:=?_) rfl (.inl ⟨by rfl, ?_⟩) hHeld ?_
   rotate_left
   ·(intro w hSw; (try dsimp only at hSw); go_simp; try (with_reducible rfl))
   (try simp only [Act.put, zZ])
   refine tZ (i:=1) (v:=?_) rfl (.inl ⟨by rfl, ?_⟩) hHeld ?_
   rotate_left
   ·(intro w hSw; (try dsimp only at hSw); go_simp; try (with_reducible rfl))
   (try simp only [Act.put, zZ])
   refine tZ (i:=2) (v:=?_) rfl (.inl ⟨by rfl, ?_⟩) hHeld ?_
   rotate_left
   ·(intro w hSw; (try dsimp only at hSw); go_simp; try (with_reducible rfl))
   (try simp only [Act.put, zZ])
   refine tZ (i:=3) (v:=?_) rfl (.inl ⟨by rfl, ?_⟩) hHeld ?_
   rotate_left
   ·(intro w hSw; (try dsimp only at hSw); go_simp; try (with_reducible rfl))
   (try simp only [Act.put, zZ])
   refine tZ (i:=4) (v:=?_) rfl (.inl ⟨by rfl, ?_⟩) hHeld ?_
   rotate_left
   ·(intro w hSw; (try dsimp only at hSw); go_simp; try (with_reducible rfl))
   (try simp only [Act.put, zZ])
   refine tZ (i:=5) (v:=?_) rfl (.inl ⟨by rfl, ?_⟩) hHeld ?_
   rotate_left
   ·(intro w hSw; (try dsimp only at hSw); go_simp; try (with_reducible rfl))
   (try simp only [Act.put, zZ])
   refine tZ (i:=6) (v:=?_) rfl (.inl ⟨by rfl, ?_⟩) hHeld ?_
   rotate_left
   ·(intro w hSw; (try dsimp only at hSw); go_simp; try (with_reducible rfl))
   (try simp only [Act.put, zZ])
   refine tZ (i:=7) (v:=?_) rfl (.inl ⟨by rfl, ?_⟩) hHeld ?_
   rotate_left
   ·(intro w hSw; (try dsimp only at hSw); go_simp; try (with_reducible rfl))
   (try simp only [Act.put, zZ])
   refine wpAnyH_ready (rs := [8]) (by kernel_rfl) (by simp) ?_
   refine AllReadyH.cons (o := _) rfl (fun K hK => ?_) AllReadyH.nil
   go_simp
   (refine (eqMail_self r _ _ _ _ _ _ _ _ _ _ _ (hv.below hHeld.1) (hu.below hHeld.1) (hv'.below hHeld.1) (hu'.below hHeld.1)).mono ?_; rintro e w2 ⟨rfl, hb3⟩; go_wp2_with fail)
   refine hK.out _ _ ?_ (fun hHeld2 => ?_)
   ·exact kp_step hHeld hb3
   clear hK K hHeld
   have hHeld := hHeld2
   clear hHeld2
   (try simp only [Act.put, zZ])
   refine tZ (i:=9) (v:=?_) rfl (.inl ⟨by rfl, ?_⟩) hHeld ?_
   rotate_left
   ·(intro w hSw; (try dsimp only at hSw); go_simp; try (with_reducible rfl))
   (try simp only [Act.put, zZ])
   refine wpAnyH_done (by kernel_rfl) ?_ _
   have hB' := hB.trans (hHeld.1.mono hB.size)
   clear hHeld
   go_wp2_with fail
   exact ⟨⟨k + 1, by omega, by go_num, hB'⟩, by simp [intOf]; omega⟩
  ·go_wp2_with fail
   go_ret
   exact ⟨rfl, hB⟩

end Go.Proofs.YtgcinolbkllkkaaGreat
