/-
  Texts of one proof, joined: Wk1.
-/
import Derived.Test.YtgcinolbkllkkaaGreatZXWorldOk34
namespace Go.Proofs.YtgcinolbkllkkaaGreat
open Go.ChangeShapes Go.WideShapes Go.ChangeAt Go.RowKit
set_option linter.unusedSimpArgs false
set_option linter.unusedVariables false
attribute [local go_sem high] eqU
theorem ueq_comm (a b : M1.Upd) : M1.ueq a b = M1.ueq b a := by
 unfold M1.ueq
 congr 1
 apply propext
 constructor <;> (rintro ⟨h0, h1, h2, h3, h4, h5, h6, h7, h8, h9, h10, h11, h12⟩; exact ⟨h0.symm, h1.symm, h2.symm, h3.symm, h4.symm, h5.symm, h6.symm, h7.symm, h8.symm, h9.symm, h10.symm, h11.symm, h12.symm⟩)

set_option maxHeartbeats 4000000 in
set_option maxRecDepth 100000 in
theorem index_any (av : Option Addr) (n cn : Nat) (us : List M1.Upd) (u : M1.Upd) (w : World) (h1 : IsUpds w av n cn us) :
  Calls Tryz.prog 89 #[.slice av n cn, .agg #[.int .i64 u.dr, .int .i64 u.dn, .int .i64 u.sw, .int .i64 u.sc, .int .i64 u.sr, .int .i64 u.k, .int .i64 u.tr, .int .i64 u.id, .int .i64 u.pa, .string u.s, .int .i64 u.st, .int .i64 u.en, .int .i64 u.lv]] w fun e w' => (∃ i : Int, e = .returned (.int .i64 i) ∧ Hid (M1.inU us u = decide (0 ≤ i))) ∧ Below w.heap.size w w' := by
 have hm1 := h1.hcap
 have hm2 := h1.hmost
 unfold maxLen at hm2
 have hl1 : Hid (us.length = n) := h1.hlen
 have hA : Below w.heap.size w (w.alloc (.cells #[.int .i64 u.dr, .int .i64 u.dn, .int .i64 u.sw, .int .i64 u.sc, .int .i64 u.sr, .int .i64 u.k, .int .i64 u.tr, .int .i64 u.id, .int .i64 u.pa, .string u.s, .int .i64 u.st, .int .i64 u.en, .int .i64 u.lv] 72)) := (Below.refl _ _).alloc (Nat.le_refl _) _
 have U0 := uq_new w u 72
 go_enter Tryz.func89, Tryz.ntmps89
 go_upto_region 1 with fail
 obtain ⟨W0, hW0⟩ : ∃ W, w.alloc (.cells #[.int .i64 u.dr, .int .i64 u.dn, .int .i64 u.sw, .int .i64 u.sc, .int .i64 u.sr, .int .i64 u.k, .int .i64 u.tr, .int .i64 u.id, .int .i64 u.pa, .string u.s, .int .i64 u.st, .int .i64 u.en, .int .i64 u.lv] 72) = W := ⟨_, rfl⟩
 rw [hW0] at hA U0 ⊢
 clear hW0
 obtain ⟨p, hp⟩ : ∃ p, Hid (w.heap.size = p) := ⟨_, rfl⟩
 rw [hp.out] at U0 ⊢
 have g1 := h1.below hA
 go_wp2_with fail
 go_loopw [8] (fun i wr => ∃ k : Nat, k ≤ n ∧ i = .int .i64 k ∧ Below W0.heap.size W0 wr ∧ Hid (∀ j, j < k → M1.ueq (M1.up us j) u = false)) (fun i _ => n - (intOf i).toNat)
 case atStart => exact ⟨0, Nat.zero_le _, rfl, Below.refl _ _, fun j hj => absurd hj (Nat.not_lt_zero _)⟩
 case round =>
  obtain ⟨k, hk, rfl, hB, hall⟩ := hrel
  have B := hA.trans (hB.mono hA.size)
  by_cases hlt : k < n
  ·have g2 := g1.below hB
   rcases g2.hlies with h0 | ⟨b, off, rfl, hb, hc⟩
   ·omega
   obtain ⟨c0, c1, c2, c3, c4, c5, c6, c7, c8, c9, c10, c11, c12⟩ := hc k hlt
   clear hc g2
   have i0 : (0 : Int) ≤ (k : Int) := by omega
   have i1 : (k : Int) < (n : Int) := by omega
   obtain ⟨t, ht⟩ : ∃ t, Hid (M1.up us k = t) := ⟨_, rfl⟩
   rw [ht.out] at c0 c1 c2 c3 c4 c5 c6 c7 c8 c9 c10 c11 c12
   have Ur := RowAt.below U0 hB
   obtain ⟨ca0, ca1, ca2, ca3, ca4, ca5, ca6, ca7, ca8, ca9, ca10, ca11, ca12⟩ := uq_cells Ur
   have ul := Ur.lt
   obtain ⟨q, hq⟩ : ∃ q, Hid (M1.ueq u t = q) := ⟨_, rfl⟩
   go_wp2_with fail
   refine wp_region_held_drew (S := fun w' => Kp wr w') (by kernel_rfl) ?_ (fun hHeld => ?_)
   ·exact kp_zero _
   refine tZ (i:=0) (v:=?_) rfl (.inl ⟨by rfl, ?_⟩) hHeld ?_
   rotate_left
   ·(intro w hSw; (try dsimp only at hSw); go_simp; try (with_reducible rfl))
   (try simp only [Act.put, zZ])
   refine tZ (i:=1) (v:=?_) rfl (.inl ⟨by rfl, ?_⟩) hHeld ?_
   rotate_left
   ·(intro w hSw; (try dsimp only at hSw); go_simp; try (with_reducible rfl))
   (try simp only [Act.put, zZ])
   refine tZ (i:=2) (v:=?_) rfl (.inl ⟨by rfl, ?_⟩) hHeld ?_
   rotate_left
   ·(intro w hSw; (try dsimp only at hSw); go_simp; try (with_reducible rfl))
   (try simp only [Act.put, zZ])
   refine tZ (i:=3) (v:=?_) rfl (.inl ⟨by rfl, ?_⟩) hHeld ?_
   rotate_left
   ·(intro w hSw; (try dsimp only at hSw); go_simp; try (with_reducible rfl))
   (try simp only [Act.put, zZ])
   refine tZ (i:=4) (v:=?_) rfl (.inl ⟨by rfl, ?_⟩) hHeld ?_
   rotate_left
   ·(intro w hSw; (try dsimp only at hSw); go_simp; try (with_reducible rfl))
   (try simp only [Act.put, zZ])
   refine tZ (i:=5) (v:=.bool q) rfl (.inl ⟨by rfl, ?_⟩) hHeld ?_
   ·(intro w hSw; (try dsimp only at hSw); go_simp; (try (first | exact congrArg Value.bool hq.out | simp [hq.out])))
   (try simp only [Act.put, zZ])
   refine wpAnyH_done (by kernel_rfl) ?_ _
   have hB' := hB.trans (hHeld.1.mono hB.size)
   have BB := hA.trans (hB'.mono hA.size)
   clear hHeld
   cases q with
   | true =>
    have HY : Hid (M1.inU us u = decide (0 ≤ (k : Int))) := (by rw [M1.inU_yes (j := k) (by rw [hl1.out]; exact hlt) (by rw [ht.out, ueq_comm]; exact hq.out), decide_eq_true i0] : _ = _)
    go_wp2_with fail
    go_ret
    exact ⟨⟨k, rfl, HY⟩, BB⟩
   | false =>
    have HA : Hid (∀ j, j < k + 1 → M1.ueq (M1.up us j) u = false) := fun j hj => by
     by_cases e : j = k
     ·rw [e, ht.out, ueq_comm]; exact hq.out
     ·exact hall.out j (by omega)
    go_wp2_with fail
    exact ⟨⟨k + 1, by omega, by go_num, hB', HA⟩, by simp [intOf]; omega⟩
  ·have HN : Hid (M1.inU us u = decide (0 ≤ (-1 : Int))) := (by rw [M1.inU_no (fun j hj => hall.out j (by rw [hl1.out] at hj; omega))]; rfl : _ = _)
   go_wp2_with fail
   go_ret
   exact ⟨⟨-1, rfl, HN⟩, B⟩

set_option maxHeartbeats 2000000 in
theorem contains_any (av : Option Addr) (n cn : Nat) (us : List M1.Upd) (u : M1.Upd) (w : World) (h1 : IsUpds w av n cn us) :
  Calls Tryz.prog 56 #[.slice av n cn, .agg #[.int .i64 u.dr, .int .i64 u.dn, .int .i64 u.sw, .int .i64 u.sc, .int .i64 u.sr, .int .i64 u.k, .int .i64 u.tr, .int .i64 u.id, .int .i64 u.pa, .string u.s, .int .i64 u.st, .int .i64 u.en, .int .i64 u.lv]] w fun e w' => e = .returned (.bool (M1.inU us u)) ∧ Below w.heap.size w w' := by
 have hA : Below w.heap.size w (w.alloc (.cells #[.int .i64 u.dr, .int .i64 u.dn, .int .i64 u.sw, .int .i64 u.sc, .int .i64 u.sr, .int .i64 u.k, .int .i64 u.tr, .int .i64 u.id, .int .i64 u.pa, .string u.s, .int .i64 u.st, .int .i64 u.en, .int .i64 u.lv] 72)) := (Below.refl _ _).alloc (Nat.le_refl _) _
 have U0 := uq_new w u 72
 go_enter Tryz.func56, Tryz.ntmps56
 go_upto_region 1 with fail
 obtain ⟨W0, hW0⟩ : ∃ W, w.alloc (.cells #[.int .i64 u.dr, .int .i64 u.dn, .int .i64 u.sw, .int .i64 u.sc, .int .i64 u.sr, .int .i64 u.k, .int .i64 u.tr, .int .i64 u.id, .int .i64 u.pa, .string u.s, .int .i64 u.st, .int .i64 u.en, .int .i64 u.lv] 72) = W := ⟨_, rfl⟩
 rw [hW0] at hA U0 ⊢
 clear hW0
 obtain ⟨ca0, ca1, ca2, ca3, ca4, ca5, ca6, ca7, ca8, ca9, ca10, ca11, ca12⟩ := uq_cells U0
 have ul := U0.lt
 go_wp2_with fail
 refine (index_any _ _ _ us u _ (h1.below hA)).mono ?_
 rintro e w1 ⟨⟨i, rfl, hi⟩, hb1⟩
 have B1 := hA.trans (hb1.mono hA.size)
 go_wp2_with fail
 go_ret
 exact ⟨by rw [hi.out]; rfl, B1⟩

def thereTo (us : List M1.Upd) (u : M1.Upd) (k : Nat) : Bool := (List.range k).any fun j => M1.ueq (M1.up us j) u

theorem thereTo_succ (us : List M1.Upd) (u : M1.Upd) (k : Nat) : thereTo us u (k + 1) = (thereTo us u k || M1.ueq (M1.up us k) u) := by
 unfold thereTo; rw [List.range_succ, List.any_append]; simp

set_option maxHeartbeats 4000000 in
set_option maxRecDepth 100000 in
theorem l6In_any (av bv : Option Addr) (n cn m cm : Nat) (l us : List M1.Upd) (w : World) (h1 : IsUpds w av n cn l) (h2 : IsUpds w bv m cm us) :
  Calls Tryz.prog 30 #[.slice av n cn, .slice bv m cm] w fun e w' => e = .returned (.bool (M1.allIn l us)) ∧ Below w.heap.size w w' := by
 have hm1 := h1.hcap
 have hm2 := h1.hmost
 have hm3 := h2.hcap
 have hm4 := h2.hmost
 unfold maxLen at hm2 hm4
 have hl1 : Hid (l.length = n) := h1.hlen
 have hl2 : Hid (us.length = m) := h2.hlen
 go_enter Tryz.func30, Tryz.ntmps30
 go_wp2_with fail
 go_loopw [5] (fun i wr => ∃ k : Nat, k ≤ n ∧ i = .int .i64 k ∧ Below w.heap.size w wr ∧ Hid (∀ j, j < k → M1.inU us (M1.up l j) = true)) (fun i _ => n - (intOf i).toNat)
 case atStart => exact ⟨0, Nat.zero_le _, rfl, Below.refl _ _, fun j hj => absurd hj (Nat.not_lt_zero _)⟩
 case round =>
  obtain ⟨k, hk, rfl, hB, hall⟩ := hrel
  by_cases hlt : k < n
  ·have i0 : (0 : Int) ≤ (k : Int) := by omega
   have i1 : (k : Int) < (n : Int) := by omega
   obtain ⟨Wo, hWo⟩ : ∃ W, W = wr := ⟨_, rfl⟩
   rw [← hWo] at hB ⊢
   clear hWo
   obtain ⟨t, ht⟩ : ∃ t, Hid (M1.up l k = t) := ⟨_, rfl⟩
   go_wp2_with fail
   go_loopw [6, 7] (fun b i wr => ∃ (j : Nat) (q : Bool), j ≤ m ∧ i = .int .i64 j ∧ b = .bool q ∧ Hid (thereTo us t j = q) ∧ Below w.heap.size w wr) (fun _ i _ => m - (intOf i).toNat)
   case atStart => exact ⟨0, false, Nat.zero_le _, rfl, rfl, rfl, hB⟩
   case round =>
    obtain ⟨j, q, hj, rfl, rfl, hq, hB2⟩ := hrel
    by_cases hlt2 : j < m
    ·have g1 := h1.below hB2
     have g2 := h2.below hB2
     rcases g1.hlies with h0 | ⟨b, off, rfl, hb, hc⟩
     ·omega
     rcases g2.hlies with h0 | ⟨b2, off2, rfl, hb2, hc2⟩
     ·omega
     obtain ⟨c0, c1, c2, c3, c4, c5, c6, c7, c8, c9, c10, c11, c12⟩ := hc k hlt
     obtain ⟨d0, d1, d2, d3, d4, d5, d6, d7, d8, d9, d10, d11, d12⟩ := hc2 j hlt2
     clear hc hc2 g1 g2
     rw [ht.out] at c0 c1 c2 c3 c4 c5 c6 c7 c8 c9 c10 c11 c12
     have j0 : (0 : Int) ≤ (j : Int) := by omega
     have j1 : (j : Int) < (m : Int) := by omega
     obtain ⟨u, hu⟩ : ∃ u, Hid (M1.up us j = u) := ⟨_, rfl⟩
     rw [hu.out] at d0 d1 d2 d3 d4 d5 d6 d7 d8 d9 d10 d11 d12
     cases q with
     | true =>
      have HT : Hid (thereTo us t (j + 1) = true) := (by rw [thereTo_succ, hq.out]; rfl : _ = _)
      go_wp2_with fail
      refine wp_region_held_drew (S := fun w' => Kp wr w') (by kernel_rfl) ?_ (fun hHeld => ?_)
      ·exact kp_zero _
      refine tZ (i:=0) (v:=?_) rfl (.inl ⟨by rfl, ?_⟩) hHeld ?_
      rotate_left
      ·(intro w hSw; (try dsimp only at hSw); go_simp; try (with_reducible rfl))
      (try simp only [Act.put, zZ])
      refine tZ (i:=1) (v:=?_) rfl (.inl ⟨by rfl, ?_⟩) hHeld ?_
      rotate_left
      ·(intro w hSw; (try dsimp only at hSw); go_simp; try (with_reducible rfl))
      (try simp only [Act.put, zZ])
      refine tZ (i:=2) (v:=undef) rfl (.inr ⟨by rfl, rfl⟩) hHeld ?_
      (try simp only [Act.put, zZ])
      refine tZ (i:=3) (v:=undef) rfl (.inr ⟨by rfl, rfl⟩) hHeld ?_
      (try simp only [Act.put, zZ])
      refine tZ (i:=4) (v:=undef) rfl (.inr ⟨by rfl, rfl⟩) hHeld ?_
      (try simp only [Act.put, zZ])
      refine tZ (i:=5) (v:=undef) rfl (.inr ⟨by rfl, rfl⟩) hHeld ?_
      (try simp only [Act.put, zZ])
      refine tZ (i:=6) (v:=undef) rfl (.inr ⟨by rfl, rfl⟩) hHeld ?_
      (try simp only [Act.put, zZ])
      refine tZ (i:=7) (v:=undef) rfl (.inr ⟨by rfl, rfl⟩) hHeld ?_
      (try simp only [Act.put, zZ])
      refine tZ (i:=8) (v:=undef) rfl (.inr ⟨by rfl, rfl⟩) hHeld ?_
      (try simp only [Act.put, zZ])
      refine tZ (i:=9) (v:=undef) rfl (.inr ⟨by rfl, rfl⟩) hHeld ?_
      (try simp only [Act.put, zZ])
      refine tZ (i:=10) (v:=undef) rfl (.inr ⟨by rfl, rfl⟩) hHeld ?_
      (try simp only [Act.put, zZ])
      refine tZ (i:=11) (v:=?_) rfl (.inl ⟨by rfl, ?_⟩) hHeld ?_
      rotate_left
      ·(intro w hSw; (try dsimp only at hSw); go_simp; try (with_reducible rfl))
      (try simp only [Act.put, zZ])
      refine tZ (i:=12) (v:=?_) rfl (.inl ⟨by rfl, ?_⟩) hHeld ?_
      rotate_left
      ·(intro w hSw; (try dsimp only at hSw); go_simp; try (with_reducible rfl))
      (try simp only [Act.put, zZ])
      refine wpAnyH_done (by kernel_rfl) ?_ _
      have hB3 := hB2.trans (hHeld.1.mono hB2.size)
      clear hHeld
      go_wp2_with fail
      exact ⟨⟨j + 1, true, by omega, by go_num, rfl, HT, hB3⟩, by simp [intOf]; omega⟩
     | false =>
      obtain ⟨z, hz⟩ : ∃ z, Hid (M1.ueq u t = z) := ⟨_, rfl⟩
      have HT : Hid (thereTo us t (j + 1) = z) := (by rw [thereTo_succ, hq.out, hu.out, hz.out]; rfl : _ = _)
      go_wp2_with fail
      refine wp_region_held_drew (S := fun w' => Kp wr w') (by kernel_rfl) ?_ (fun hHeld => ?_)
      ·exact kp_zero _
      refine tZ (i:=0) (v:=?_) rfl (.inl ⟨by rfl, ?_⟩) hHeld ?_
      rotate_left
      ·(intro w hSw; (try dsimp only at hSw); go_simp; try (with_reducible rfl))
      (try simp only [Act.put, zZ])
      refine tZ (i:=1) (v:=?_) rfl (.inl ⟨by rfl, ?_⟩) hHeld ?_
      rotate_left
      ·(intro w hSw; (try dsimp only at hSw); go_simp; try (with_reducible rfl))
      (try simp only [Act.put, zZ])
      refine tZ (i:=2) (v:=?_) rfl (.inl ⟨by rfl, ?_⟩) hHeld ?_
      rotate_left
      ·(intro w hSw; (try dsimp only at hSw); go_simp; try (with_reducible rfl))
      (try simp only [Act.put, zZ])
      refine tZ (i:=3) (v:=?_) rfl (.inl ⟨by rfl, ?_⟩) hHeld ?_
      rotate_left
      ·(intro w hSw; (try dsimp only at hSw); go_simp; try (with_reducible rfl))
      (try simp only [Act.put, zZ])
      refine tZ (i:=4) (v:=?_) rfl (.inl ⟨by rfl, ?_⟩) hHeld ?_
      rotate_left
      ·(intro w hSw; (try dsimp only at hSw); go_simp; try (with_reducible rfl))
      (try simp only [Act.put, zZ])
      refine tZ (i:=5) (v:=?_) rfl (.inl ⟨by rfl, ?_⟩) hHeld ?_
      rotate_left
      ·(intro w hSw; (try dsimp only at hSw); go_simp; try (with_reducible rfl))
      (try simp only [Act.put, zZ])
      refine tZ (i:=6) (v:=?_) rfl (.inl ⟨by rfl, ?_⟩) hHeld ?_
      rotate_left
      ·(intro w hSw; (try dsimp only at hSw); go_simp; try (with_reducible rfl))
      (try simp only [Act.put, zZ])
      refine tZ (i:=7) (v:=?_) rfl (.inl ⟨by rfl, ?_⟩) hHeld ?_
      rotate_left
      ·(intro w hSw; (try dsimp only at hSw); go_simp; try (with_reducible rfl))
      (try simp only [Act.put, zZ])
      refine tZ (i:=8) (v:=?_) rfl (.inl ⟨by rfl, ?_⟩) hHeld ?_
      rotate_left
      ·(intro w hSw; (try dsimp only at hSw); go_simp; try (with_reducible rfl))
      (try simp only [Act.put, zZ])
      refine tZ (i:=9) (v:=?_) rfl (.inl ⟨by rfl, ?_⟩) hHeld ?_
      rotate_left
      ·(intro w hSw; (try dsimp only at hSw); go_simp; try (with_reducible rfl))
      (try simp only [Act.put, zZ])
      refine tZ (i:=10) (v:=.bool z) rfl (.inl ⟨by rfl, ?_⟩) hHeld ?_
      ·(intro w hSw; (try dsimp only at hSw); go_simp; (try (first | exact congrArg Value.bool hz.out | simp [hz.out])))
      (try simp only [Act.put, zZ])
      refine tZ (i:=11) (v:=?_) rfl (.inl ⟨by rfl, ?_⟩) hHeld ?_
      rotate_left
      ·(intro w hSw; (try dsimp only at hSw); go_simp; try (with_reducible rfl))
      (try simp only [Act.put, zZ])
      refine tZ (i:=12) (v:=?_) rfl (.inl ⟨by rfl, ?_⟩) hHeld ?_
      rotate_left
      ·(intro w hSw; (try dsimp only at hSw); go_simp; try (with_reducible rfl))
      (try simp only [Act.put, zZ])
      refine wpAnyH_done (by kernel_rfl) ?_ _
      have hB3 := hB2.trans (hHeld.1.mono hB2.size)
      clear hHeld
      go_wp2_with fail
      exact ⟨⟨j + 1, z, by omega, by go_num, rfl, HT, hB3⟩, by simp [intOf]; omega⟩
    ·have hjm : Hid (j = m) := by show j = m; omega
     have HI : Hid (M1.inU us (M1.up l k) = q) := (by rw [ht.out]; unfold M1.inU; have := hq.out; unfold thereTo at this; rw [hl2.out, ← hjm.out]; exact this : _ = _)
     cases q with
     | true =>
      have HA : Hid (∀ j, j < k + 1 → M1.inU us (M1.up l j) = true) := fun j hj => by
       by_cases e : j = k
       ·rw [e]; exact HI.out
       ·exact hall.out j (by omega)
      go_wp2_with fail
      exact ⟨⟨k + 1, by omega, by go_num, hB2, HA⟩, by simp [intOf]; omega⟩
     | false =>
      have HF : Hid (M1.allIn l us = false) := M1.allIn_no (i := k) (by rw [hl1.out]; exact hlt) HI.out
      go_wp2_with fail
      go_ret
      exact ⟨by rw [HF.out]; rfl, hB2⟩
  ·have HT : Hid (M1.allIn l us = true) := M1.allIn_yes fun i hi => hall.out i (by rw [hl1.out] at hi; omega)
   go_wp2_with fail
   go_ret
   exact ⟨by rw [HT.out]; rfl, hB⟩

end Go.Proofs.YtgcinolbkllkkaaGreat
