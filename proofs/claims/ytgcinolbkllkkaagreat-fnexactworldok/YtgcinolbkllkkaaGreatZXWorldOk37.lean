/-
  Texts of one proof, joined: Wk2.
-/
import Derived.Test.YtgcinolbkllkkaaGreatZXWorldOk35
import Derived.Test.YtgcinolbkllkkaaGreatZXWorldOk15
import Derived.Test.YtgcinolbkllkkaaGreatZXWorldOk36
namespace Go.Proofs.YtgcinolbkllkkaaGreat
open Go.ChangeShapes Go.WideShapes Go.ChangeAt Go.RowKit
set_option linter.unusedSimpArgs false
set_option linter.unusedVariables false
def AllO (w w' : World) (e : Ending) : Option (List M1.Upd) → Prop
 | none => e = .returned (.tuple #[.map none, .bool false])
 | some l => ∃ b, e = .returned (.tuple #[.map (some b), .bool true]) ∧ w.heap.size ≤ b ∧ MapIs w' b l

theorem short_set {us : List M1.Upd} (h : M1.setOk us = true) : ∀ i, i < us.length → (M1.up us i).s.size ≤ maxLen := fun i hi => by
 have := M1.ok_txt (M1.okAt_ok (M1.setOk_all h i hi))
 unfold maxLen; omega

set_option maxHeartbeats 8000000 in
set_option maxRecDepth 100000 in
theorem allOf_any (av : Option Addr) (n cn : Nat) (rs : List M1.Rg) (w : World) (h1 : IsRgs w av n cn rs) :
  Calls Tryz.prog 24 #[.slice av n cn] w fun e w' => AllO w w' e (M1.wAll rs n) ∧ Below w.heap.size w w' := by
 have hm1 := h1.hcap
 have hm2 := h1.hmost
 unfold maxLen at hm2
 go_enter Tryz.func24, Tryz.ntmps24
 go_wp2_with fail
 go_loopw [4, 14] (fun a i wr => ∃ (k : Nat) (l : List M1.Upd) (m : Nat) (v : Option Addr) (c : Nat), k ≤ n ∧ i = .int .i64 k ∧ a = .slice v m c ∧ IsUpds wr v m c l ∧ Below w.heap.size w wr ∧ Hid (M1.regsB rs k = true ∧ M1.uni rs k = some l)) (fun _ i _ => n - (intOf i).toNat)
 case atStart => exact ⟨0, [], 0, none, 0, Nat.zero_le _, rfl, rfl, ⟨rfl, Nat.le_refl _, Nat.zero_le _, fun i hi => absurd hi (Nat.not_lt_zero _), Or.inl rfl⟩, Below.refl _ _, rfl, rfl⟩
 case round =>
  obtain ⟨k, l, m, v, c, hk, rfl, rfl, hl, hB, hall⟩ := hrel
  have hm5 := hl.hcap
  have hm6 := hl.hmost
  unfold maxLen at hm6
  have hll : Hid (l.length = m) := hl.hlen
  by_cases hlt : k < n
  ·have g1 := h1.below hB
   rcases g1.hlies with h0 | ⟨b, off, rfl, hb, hc⟩
   ·omega
   obtain ⟨v1, m1, n1, c0, c1, c2, c3, c4, hu⟩ := hc k hlt
   clear hc g1
   have i0 : (0 : Int) ≤ (k : Int) := by omega
   have i1 : (k : Int) < (n : Int) := by omega
   obtain ⟨r, hr⟩ : ∃ r, Hid (M1.rgA rs k = r) := ⟨_, rfl⟩
   rw [hr.out] at c0 c1 c2 c3 hu
   have hA : Below wr.heap.size wr (wr.alloc (.cells #[.int .i64 r.id, .int .i64 r.a, .int .i64 r.b, .int .i64 r.c, .slice v1 m1 n1] 34)) := (Below.refl _ _).alloc (Nat.le_refl _) _
   have P := r5_new wr (.int .i64 r.id) (.int .i64 r.a) (.int .i64 r.b) (.int .i64 r.c) (.slice v1 m1 n1) 34
   go_upto_region 5 with fail
   obtain ⟨W0, hW0⟩ : ∃ W, wr.alloc (.cells #[.int .i64 r.id, .int .i64 r.a, .int .i64 r.b, .int .i64 r.c, .slice v1 m1 n1] 34) = W := ⟨_, rfl⟩
   rw [hW0] at hA P ⊢
   clear hW0
   obtain ⟨p, hp⟩ : ∃ p, Hid (wr.heap.size = p) := ⟨_, rfl⟩
   rw [hp.out] at P ⊢
   obtain ⟨d0, d1, d2, d3, d4⟩ := r5_cells P
   have pl := P.lt
   have B0 := hB.trans (hA.mono hB.size)
   have hu0 := hu.below hA
   have hl0 := hl.below hA
   clear c0 c1 c2 c3 c4
   by_cases hid : r.id = (k : Int) + 1
   ·obtain ⟨q, hq⟩ : ∃ q, Hid (M1.regOk ((k : Int) + 1) r.a r.b r.c r.us = q) := ⟨_, rfl⟩
    go_wp2_with fail
    refine (regionOk_impl _ _ _ _ _ _ _ r.us _ hu0).mono ?_
    rw [hq.out]
    rintro e w1 ⟨rfl, hb1⟩
    have B1 := B0.trans (hb1.mono B0.size)
    have P1 := RowAt.below P hb1
    clear d0 d1 d2 d3 d4 pl
    obtain ⟨d0, d1, d2, d3, d4⟩ := r5_cells P1
    have pl := P1.lt
    cases q with
    | false =>
     have HN : Hid (M1.wAll rs n = none) := M1.wAll_1 (M1.regsB_fail (k := k + 1) (by unfold M1.regsB M1.rOk; rw [hr.out, hid, hq.out]; simp) (by omega))
     go_wp2_with fail
     refine bodyPost_ret (v := .tuple #[.map none, .bool false]) (by simp [results, Tryz.results24, go_sem]) rfl ⟨by rw [HN.out]; rfl, B1⟩
    | true =>
     have HR : Hid (M1.regsB rs (k + 1) = true) := (by unfold M1.regsB M1.rOk; rw [hall.out.1, hr.out, hid, hq.out]; simp : _ = _)
     obtain ⟨z, hz⟩ : ∃ z, Hid (M1.jOk l r.us = z) := ⟨_, rfl⟩
     go_wp2_with fail
     refine (joined_impl _ _ _ _ _ _ l r.us _ (hl0.below hb1) (hu0.below hb1)).mono ?_
     rw [hz.out]
     rintro e w2 ⟨⟨v2, cap2, rfl, mu⟩, hb2⟩
     have B2 := B1.trans (hb2.mono B1.size)
     cases z with
     | false =>
      have HN : Hid (M1.wAll rs n = none) := M1.wAll_2 (M1.uni_fail (k := k + 1) (M1.uni_no hall.out.2 (by rw [hr.out]; exact hz.out)) (by omega))
      go_wp2_with fail
      refine bodyPost_ret (v := .tuple #[.map none, .bool false]) (by simp [results, Tryz.results24, go_sem]) rfl ⟨by rw [HN.out]; rfl, B2⟩
     | true =>
      have HU : Hid (M1.uni rs (k + 1) = some (M1.jL l r.us)) := (by have := M1.uni_yes hall.out.2 (by rw [hr.out]; exact hz.out); rw [hr.out] at this; exact this : _ = _)
      have hs : Hid (M1.setOk (M1.jL l r.us) = true) := M1.uni_set HU.out
      have hl2 : IsUpds w2 v2 (M1.jL l r.us).length cap2 (M1.jL l r.us) := mu.upds rfl (short_set hs.out)
      go_wp2_with fail
      exact ⟨⟨k + 1, M1.jL l r.us, _, v2, cap2, by omega, by go_num, rfl, hl2, B2, HR.out, HU.out⟩, by simp [intOf]; omega⟩
   ·have HN : Hid (M1.wAll rs n = none) := M1.wAll_1 (M1.regsB_fail (k := k + 1) (by unfold M1.regsB; rw [hr.out]; simp [hid]) (by omega))
    go_wp2_with fail
    refine bodyPost_ret (v := .tuple #[.map none, .bool false]) (by simp [results, Tryz.results24, go_sem]) rfl ⟨by rw [HN.out]; rfl, B0⟩
  ·have hkn : Hid (k = n) := by show k = n; omega
   have HR : Hid (M1.regsB rs n = true) := (by rw [← hkn.out]; exact hall.out.1 : _ = _)
   have HU : Hid (M1.uni rs n = some l) := (by rw [← hkn.out]; exact hall.out.2 : _ = _)
   have hs : Hid (M1.setOk l = true) := M1.uni_set HU.out
   obtain ⟨Wo, hWo⟩ : ∃ W, W = wr := ⟨_, rfl⟩
   rw [← hWo] at hB hl ⊢
   clear hWo
   go_wp2_with fail
   go_loopw [42] (fun i wr => ∃ k : Nat, k ≤ m ∧ i = .int .i64 k ∧ Below Wo.heap.size Wo wr ∧ Hid (∀ j, j < k → M1.ownB rs n (M1.up l j) = true)) (fun i _ => m - (intOf i).toNat)
   case atStart => exact ⟨0, Nat.zero_le _, rfl, Below.refl _ _, fun j hj => absurd hj (Nat.not_lt_zero _)⟩
   case round =>
    obtain ⟨j, hj, rfl, hB2, hown⟩ := hrel
    have B2 := hB.trans (hB2.mono hB.size)
    by_cases hlt2 : j < m
    ·have gl := hl.below hB2
     rcases gl.hlies with h0 | ⟨b, off, rfl, hb, hc⟩
     ·omega
     obtain ⟨c0, c1, c2, c3, c4, c5, c6, c7, c8, c9, c10, c11, c12⟩ := hc j hlt2
     clear hc gl
     have j0 : (0 : Int) ≤ (j : Int) := by omega
     have j1 : (j : Int) < (m : Int) := by omega
     obtain ⟨u, hu⟩ : ∃ u, Hid (M1.up l j = u) := ⟨_, rfl⟩
     rw [hu.out] at c0 c1 c2 c3 c4 c5 c6 c7 c8 c9 c10 c11 c12
     obtain ⟨ur0, ur1⟩ : 1 ≤ u.dr ∧ u.dr ≤ 5 := (by have := M1.ok_rg (M1.setOk_all hs.out) (j := j) (by rw [hll.out]; exact hlt2); rw [hu.out] at this; exact ⟨this.1, this.2.1⟩)
     have hA : Below wr.heap.size wr (wr.alloc (.cells #[.int .i64 u.dr, .int .i64 u.dn, .int .i64 u.sw, .int .i64 u.sc, .int .i64 u.sr, .int .i64 u.k, .int .i64 u.tr, .int .i64 u.id, .int .i64 u.pa, .string u.s, .int .i64 u.st, .int .i64 u.en, .int .i64 u.lv] 72)) := (Below.refl _ _).alloc (Nat.le_refl _) _
     have U0 := uq_new wr u 72
     go_upto_region 15 with fail
     obtain ⟨W0, hW0⟩ : ∃ W, wr.alloc (.cells #[.int .i64 u.dr, .int .i64 u.dn, .int .i64 u.sw, .int .i64 u.sc, .int .i64 u.sr, .int .i64 u.k, .int .i64 u.tr, .int .i64 u.id, .int .i64 u.pa, .string u.s, .int .i64 u.st, .int .i64 u.en, .int .i64 u.lv] 72) = W := ⟨_, rfl⟩
     rw [hW0] at hA U0 ⊢
     clear hW0
     obtain ⟨p, hp⟩ : ∃ p, Hid (wr.heap.size = p) := ⟨_, rfl⟩
     rw [hp.out] at U0 ⊢
     clear c0 c1 c2 c3 c4 c5 c6 c7 c8 c9 c10 c11 c12
     obtain ⟨ca0, ca1, ca2, ca3, ca4, ca5, ca6, ca7, ca8, ca9, ca10, ca11, ca12⟩ := uq_cells U0
     have ul := U0.lt
     have hB3 := hB2.trans (hA.mono hB2.size)
     have B3 := hB.trans (hB3.mono hB.size)
     by_cases hd : u.dr ≤ (n : Int)
     ·have g1 := h1.below B3
      rcases g1.hlies with h0 | ⟨b1, off1, rfl, hb1, hc1⟩
      ·omega
      obtain ⟨v1, m1, n1, d0, d1, d2, d3, d4, hus⟩ := hc1 (u.dr.toNat - 1) (by omega)
      clear hc1 g1 d0 d1 d2 d3
      have e0 : (0 : Int) ≤ u.dr - 1 := by omega
      have e1 : u.dr - 1 < (n : Int) := by omega
      have hng : ¬ (n : Int) < u.dr := by omega
      have hgt : decide ((n : Int) < u.dr) = false := decide_eq_false hng
      obtain ⟨q, hq⟩ : ∃ q, Hid (M1.inU (M1.rgA rs (u.dr.toNat - 1)).us u = q) := ⟨_, rfl⟩
      have hE : Hid ((u.dr - 1).toNat = u.dr.toNat - 1) := by show (u.dr - 1).toNat = u.dr.toNat - 1; omega
      go_wp2_with fail
      refine wp_region_held_drew (S := fun w' => Kp W0 w') (by kernel_rfl) ?_ (fun hHeld => ?_)
      ·exact kp_zero _
      refine tZ (i:=0) (v:=?_) rfl (.inl ⟨by rfl, ?_⟩) hHeld ?_
      rotate_left
      ·(intro w hSw; (try dsimp only at hSw); go_simp; try (with_reducible rfl))
      (try simp only [Act.put, zZ])
      refine tZ (i:=1) (v:=?_) rfl (.inl ⟨by rfl, ?_⟩) hHeld ?_
      rotate_left
      ·(intro w hSw; (try dsimp only at hSw); go_simp; try (with_reducible rfl))
      (try simp only [Act.put, zZ])
      refine tZ (i:=2) (v:=?_) rfl (.inl ⟨by rfl, ?_⟩) hHeld ?_
      rotate_left
      ·(intro w hSw; (try dsimp only at hSw); go_simp; try (with_reducible rfl))
      (try simp only [Act.put, zZ])
      refine tZ (i:=3) (v:=.bool false) rfl (.inl ⟨by rfl, ?_⟩) hHeld ?_
      ·(intro w hSw; (try dsimp only at hSw); go_simp; skip)
      (try simp only [Act.put, zZ])
      refine tZ (i:=4) (v:=?_) rfl (.inl ⟨by rfl, ?_⟩) hHeld ?_
      rotate_left
      ·(intro w hSw; (try dsimp only at hSw); go_simp; try (with_reducible rfl))
      (try simp only [Act.put, zZ])
      refine tZ (i:=5) (v:=?_) rfl (.inl ⟨by rfl, ?_⟩) hHeld ?_
      rotate_left
      ·(intro w hSw; (try dsimp only at hSw); go_simp; try (with_reducible rfl))
      (try simp only [Act.put, zZ])
      refine tZ (i:=6) (v:=?_) rfl (.inl ⟨by rfl, ?_⟩) hHeld ?_
      rotate_left
      ·(intro w hSw; (try dsimp only at hSw); go_simp; try (with_reducible rfl))
      (try simp only [Act.put, zZ])
      refine tZ (i:=7) (v:=.int .i64 (u.dr - 1)) rfl (.inl ⟨by rfl, ?_⟩) hHeld ?_
      ·(intro w hSw; (try dsimp only at hSw); go_simp; (try exact IntWalk.i64_in _ (by omega)))
      (try simp only [Act.put, zZ])
      refine tZ (i:=8) (v:=?_) rfl (.inl ⟨by rfl, ?_⟩) hHeld ?_
      rotate_left
      ·(intro w hSw; (try dsimp only at hSw); go_simp; try (with_reducible rfl))
      (try simp only [Act.put, zZ])
      refine tZ (i:=9) (v:=?_) rfl (.inl ⟨by rfl, ?_⟩) hHeld ?_
      rotate_left
      ·(intro w hSw; (try dsimp only at hSw); go_simp; try (with_reducible rfl))
      (try simp only [Act.put, zZ])
      refine tZ (i:=10) (v:=?_) rfl (.inl ⟨by rfl, ?_⟩) hHeld ?_
      rotate_left
      ·(intro w hSw; (try dsimp only at hSw); go_simp; try (with_reducible rfl))
      (try simp only [Act.put, zZ])
      refine tZ (i:=11) (v:=?_) rfl (.inl ⟨by rfl, ?_⟩) hHeld ?_
      rotate_left
      ·(intro w hSw; (try dsimp only at hSw); go_simp; try (with_reducible rfl))
      (try simp only [Act.put, zZ])
      refine wpAnyH_ready (rs := [12]) (by kernel_rfl) (by simp) ?_
      refine AllReadyH.cons (o := _) rfl (fun K hK => ?_) AllReadyH.nil
      go_simp
      (refine (contains_any _ _ _ _ u _ (hus.below hHeld.1)).mono ?_; rw [hq.out]; rintro e wc ⟨rfl, hbw⟩; go_wp2_with fail)
      refine hK.out _ _ ?_ (fun hHeld2 => ?_)
      ·exact kp_step hHeld hbw
      clear hK K hHeld
      have hHeld := hHeld2
      clear hHeld2
      (try simp only [Act.put, zZ])
      refine tZ (i:=13) (v:=?_) rfl (.inl ⟨by rfl, ?_⟩) hHeld ?_
      rotate_left
      ·(intro w hSw; (try dsimp only at hSw); go_simp; try (with_reducible rfl))
      (try simp only [Act.put, zZ])
      refine tZ (i:=14) (v:=?_) rfl (.inl ⟨by rfl, ?_⟩) hHeld ?_
      rotate_left
      ·(intro w hSw; (try dsimp only at hSw); go_simp; try (with_reducible rfl))
      (try simp only [Act.put, zZ])
      refine wpAnyH_done (by kernel_rfl) ?_ _
      have hB4 := hB3.trans (hHeld.1.mono hB3.size)
      have B4 := hB.trans (hB4.mono hB.size)
      clear hHeld
      cases q with
      | true =>
       have HA : Hid (∀ i, i < j + 1 → M1.ownB rs n (M1.up l i) = true) := fun i hi => by
        by_cases e : i = j
        ·rw [e, hu.out]; unfold M1.ownB; rw [hE.out, hq.out, decide_eq_true hd]; rfl
        ·exact hown.out i (by omega)
       go_wp2_with fail
       exact ⟨⟨j + 1, by omega, by go_num, hB4, HA⟩, by simp [intOf]; omega⟩
      | false =>
       have HN : Hid (M1.wAll rs n = none) := M1.wAll_3 HU.out (M1.ownsB_no (i := j) (by rw [hll.out]; exact hlt2) (by rw [hu.out]; unfold M1.ownB; rw [hE.out, hq.out]; simp))
       go_wp2_with fail
       refine bodyPost_ret (v := .tuple #[.map none, .bool false]) (by simp [results, Tryz.results24, go_sem]) rfl ⟨by rw [HN.out]; rfl, B4⟩
     ·have hgt : (n : Int) < u.dr := by omega
      have HN : Hid (M1.wAll rs n = none) := M1.wAll_3 HU.out (M1.ownsB_no (i := j) (by rw [hll.out]; exact hlt2) (by rw [hu.out]; unfold M1.ownB; rw [decide_eq_false hd]; rfl))
      go_wp2_with fail
      refine wp_region_held_drew (S := fun w' => Kp W0 w') (by kernel_rfl) ?_ (fun hHeld => ?_)
      ·exact kp_zero _
      refine tZ (i:=0) (v:=?_) rfl (.inl ⟨by rfl, ?_⟩) hHeld ?_
      rotate_left
      ·(intro w hSw; (try dsimp only at hSw); go_simp; try (with_reducible rfl))
      (try simp only [Act.put, zZ])
      refine tZ (i:=1) (v:=?_) rfl (.inl ⟨by rfl, ?_⟩) hHeld ?_
      rotate_left
      ·(intro w hSw; (try dsimp only at hSw); go_simp; try (with_reducible rfl))
      (try simp only [Act.put, zZ])
      refine tZ (i:=2) (v:=?_) rfl (.inl ⟨by rfl, ?_⟩) hHeld ?_
      rotate_left
      ·(intro w hSw; (try dsimp only at hSw); go_simp; try (with_reducible rfl))
      (try simp only [Act.put, zZ])
      refine tZ (i:=3) (v:=.bool true) rfl (.inl ⟨by rfl, ?_⟩) hHeld ?_
      ·(intro w hSw; (try dsimp only at hSw); go_simp; skip)
      (try simp only [Act.put, zZ])
      refine tZ (i:=4) (v:=?_) rfl (.inl ⟨by rfl, ?_⟩) hHeld ?_
      rotate_left
      ·(intro w hSw; (try dsimp only at hSw); go_simp; try (with_reducible rfl))
      (try simp only [Act.put, zZ])
      refine tZ (i:=5) (v:=undef) rfl (.inr ⟨by rfl, rfl⟩) hHeld ?_
      (try simp only [Act.put, zZ])
      refine tZ (i:=6) (v:=undef) rfl (.inr ⟨by rfl, rfl⟩) hHeld ?_
      (try simp only [Act.put, zZ])
      refine tZ (i:=7) (v:=undef) rfl (.inr ⟨by rfl, rfl⟩) hHeld ?_
      (try simp only [Act.put, zZ])
      refine tZ (i:=8) (v:=undef) rfl (.inr ⟨by rfl, rfl⟩) hHeld ?_
      (try simp only [Act.put, zZ])
      refine tZ (i:=9) (v:=undef) rfl (.inr ⟨by rfl, rfl⟩) hHeld ?_
      (try simp only [Act.put, zZ])
      refine tZ (i:=10) (v:=undef) rfl (.inr ⟨by rfl, rfl⟩) hHeld ?_
      (try simp only [Act.put, zZ])
      refine tZ (i:=11) (v:=undef) rfl (.inr ⟨by rfl, rfl⟩) hHeld ?_
      (try simp only [Act.put, zZ])
      refine tZ (i:=12) (v:=undef) rfl (.inr ⟨by rfl, rfl⟩) hHeld ?_
      (try simp only [Act.put, zZ])
      refine tZ (i:=13) (v:=undef) rfl (.inr ⟨by rfl, rfl⟩) hHeld ?_
      (try simp only [Act.put, zZ])
      refine tZ (i:=14) (v:=?_) rfl (.inl ⟨by rfl, ?_⟩) hHeld ?_
      rotate_left
      ·(intro w hSw; (try dsimp only at hSw); go_simp; try (with_reducible rfl))
      (try simp only [Act.put, zZ])
      refine wpAnyH_done (by kernel_rfl) ?_ _
      have B4 := B3.trans (hHeld.1.mono B3.size)
      clear hHeld
      go_wp2_with fail
      refine bodyPost_ret (v := .tuple #[.map none, .bool false]) (by simp [results, Tryz.results24, go_sem]) rfl ⟨by rw [HN.out]; rfl, B4⟩
    ·have hjm : Hid (j = m) := by show j = m; omega
     have HO : Hid (M1.wAll rs n = some l) := M1.wAll_0 HR.out HU.out (M1.ownsB_yes fun i hi => hown.out i (by rw [hll.out] at hi; have := hjm.out; omega))
     have hap : Hid (M1.apart l) := M1.ok_apart (M1.setOk_all hs.out)
     go_wp2_with fail
     refine (setFrom_any _ _ _ l _ (hl.below hB2) hap).mono ?_
     rintro e w5 ⟨⟨g, rfl, hg, hmap⟩, hb5⟩
     have B5 := B2.trans (hb5.mono B2.size)
     have HG : w.heap.size ≤ g := Nat.le_trans B2.size hg
     go_wp2_with fail
     refine bodyPost_ret (v := .tuple #[.map (some g), .bool true]) (by simp [results, Tryz.results24, go_sem]) rfl ⟨by rw [HO.out]; exact ⟨g, rfl, HG, hmap⟩, B5⟩

end Go.Proofs.YtgcinolbkllkkaaGreat
