/-
  Texts of one proof, joined: SetImpl.
-/
import Derived.Test.YtgcinolbkllkkaaGreatZXWorldOk04
import Derived.Test.YtgcinolbkllkkaaGreatZXWorldOk13
namespace Go.Proofs.YtgcinolbkllkkaaGreat
open Go.ChangeShapes Go.WideShapes Go.ChangeAt Go.RowKit
set_option linter.unusedSimpArgs false
set_option maxHeartbeats 4000000 in
theorem follows_any (p u : M1.Upd) (w : World) (hw : IntKind.i64.wrap (p.dn + 1) = p.dn + 1) :
  Calls Tryz.prog 63 #[.agg #[.int .i64 p.dr, .int .i64 p.dn, .int .i64 p.sw, .int .i64 p.sc, .int .i64 p.sr, .int .i64 p.k, .int .i64 p.tr, .int .i64 p.id, .int .i64 p.pa, .string p.s, .int .i64 p.st, .int .i64 p.en, .int .i64 p.lv], .agg #[.int .i64 u.dr, .int .i64 u.dn, .int .i64 u.sw, .int .i64 u.sc, .int .i64 u.sr, .int .i64 u.k, .int .i64 u.tr, .int .i64 u.id, .int .i64 u.pa, .string u.s, .int .i64 u.st, .int .i64 u.en, .int .i64 u.lv]] w fun e w' => e = .returned (.bool (M1.fol p u)) ∧ Below w.heap.size w w' := by
 by_cases hr : u.dr = p.dr
 ·have hrb : (u.dr != p.dr) = false := by simp [hr]
  by_cases hd : u.dn = p.dn + 1
  ·have hdb : (u.dn == p.dn + 1) = true := by simp [hd]
   have HQ : Hid (M1.fol p u = M1.aheadB p.sw p.sc p.sr u.sw u.sc u.sr) := (by unfold M1.fol; rw [if_pos hr, decide_eq_true hd, Bool.true_and] : M1.fol p u = M1.aheadB p.sw p.sc p.sr u.sw u.sc u.sr)
   clear hd hr
   rw [HQ.out]
   go_enter Tryz.func63, Tryz.ntmps63
   go_wp2_with fail
   refine (ahead_impl _ _ _ _ _ _ _).mono ?_
   rintro e w1 ⟨rfl, hb1⟩
   go_wp2_with fail
   go_ret
   refine ⟨rfl, ?_⟩
   repeat (first | (with_reducible exact Below.refl _ _) | ((with_reducible refine Below.setCell ?_ ?_ _); rotate_left; (focus (first | omega | (simp; done) | (simp; omega)))) | ((with_reducible refine Below.alloc ?_ ?_ _); rotate_left; (focus (first | omega | (simp; done) | (simp; omega)))) | (with_reducible refine Below.drew ?_) | ((with_reducible refine Below.trans ?_ (Below.mono hb1 ?_)); rotate_left; (focus (first | omega | (simp; done) | (simp; omega)))))
  ·have hdb : (u.dn == p.dn + 1) = false := by simp [hd]
   have HQ : Hid (M1.fol p u = false) := (by unfold M1.fol; rw [if_pos hr, decide_eq_false hd, Bool.false_and] : M1.fol p u = false)
   clear hd hr
   go_enter Tryz.func63, Tryz.ntmps63
   go_wp2_with fail
   go_ret
   refine ⟨by rw [HQ.out]; rfl, ?_⟩
   repeat (first | (with_reducible exact Below.refl _ _) | ((with_reducible refine Below.setCell ?_ ?_ _); rotate_left; (focus (first | omega | (simp; done) | (simp; omega)))) | ((with_reducible refine Below.alloc ?_ ?_ _); rotate_left; (focus (first | omega | (simp; done) | (simp; omega)))) | (with_reducible refine Below.drew ?_))
 ·have hrb : (u.dr != p.dr) = true := by simp [hr]
  by_cases hl : p.dr < u.dr
  ·have HQ : Hid (M1.fol p u = (u.dn == 1)) := (by unfold M1.fol; rw [if_neg hr, decide_eq_true hl, Bool.true_and]; rfl : M1.fol p u = (u.dn == 1))
   clear hr
   go_enter Tryz.func63, Tryz.ntmps63
   go_wp2_with fail
   all_goals (go_ret)
   all_goals (refine ⟨by rw [HQ.out]; rfl, ?_⟩)
   all_goals (repeat (first | (with_reducible exact Below.refl _ _) | ((with_reducible refine Below.setCell ?_ ?_ _); rotate_left; (focus (first | omega | (simp; done) | (simp; omega)))) | ((with_reducible refine Below.alloc ?_ ?_ _); rotate_left; (focus (first | omega | (simp; done) | (simp; omega)))) | (with_reducible refine Below.drew ?_)))
  ·have HQ : Hid (M1.fol p u = false) := (by unfold M1.fol; rw [if_neg hr, decide_eq_false hl, Bool.false_and] : M1.fol p u = false)
   clear hr
   go_enter Tryz.func63, Tryz.ntmps63
   go_wp2_with fail
   go_ret
   refine ⟨by rw [HQ.out]; rfl, ?_⟩
   repeat (first | (with_reducible exact Below.refl _ _) | ((with_reducible refine Below.setCell ?_ ?_ _); rotate_left; (focus (first | omega | (simp; done) | (simp; omega)))) | ((with_reducible refine Below.alloc ?_ ?_ _); rotate_left; (focus (first | omega | (simp; done) | (simp; omega)))) | (with_reducible refine Below.drew ?_))

set_option maxHeartbeats 16000000 in
set_option maxRecDepth 100000 in
theorem setOk_impl (av : Option Addr) (n cn : Nat) (us : List M1.Upd) (w : World) (h1 : IsUpds w av n cn us) :
  Calls Tryz.prog 32 #[.slice av n cn] w fun e w' => e = .returned (.bool (M1.setOk us)) ∧ Below w.heap.size w w' := by
 have hl1 : Hid (us.length = n) := h1.hlen
 have hm1 := h1.hcap
 have hm2 := h1.hmost
 unfold maxLen at hm2
 by_cases h60 : (60 : Int) < (n : Int)
 ·have HQ : Hid (M1.setOk us = false) := (by have := hl1.out; unfold M1.setOk; rw [decide_eq_false (by omega)]; rfl : M1.setOk us = false)
  go_enter Tryz.func32, Tryz.ntmps32
  go_wp2_with fail
  go_ret
  exact ⟨by rw [HQ.out]; rfl, Below.refl _ _⟩
 go_enter Tryz.func32, Tryz.ntmps32
 go_wp2_with fail
 go_loopw [10] (fun i wr => ∃ k : Nat, k ≤ n ∧ i = .int .i64 k ∧ Below w.heap.size w wr ∧ Hid (∀ j, j < k → M1.okAt us j = true)) (fun i _ => n - (intOf i).toNat)
 case atStart => exact ⟨0, Nat.zero_le _, rfl, Below.refl _ _, fun j hj => absurd hj (Nat.not_lt_zero _)⟩
 case round =>
  obtain ⟨k, hk, rfl, hB, hall⟩ := hrel
  by_cases hlt : k < n
  ·have g1 := h1.below hB
   rcases g1.hlies with h0 | ⟨b, off, rfl, hb, hc⟩
   ·omega
   obtain ⟨c0, c1, c2, c3, c4, c5, c6, c7, c8, c9, c10, c11, c12⟩ := hc k hlt
   have hs := h1.htxt k hlt
   have i0 : (0 : Int) ≤ (k : Int) := by omega
   have i1 : (k : Int) < (n : Int) := by omega
   have hne : ¬ b = wr.heap.size := by omega
   have hb' : b < wr.heap.size + 1 := by omega
   by_cases hu : M1.okU (M1.up us k) = true
   ·have hok : M1.updB (M1.up us k).dr (M1.up us k).dn (M1.up us k).sw (M1.up us k).sc (M1.up us k).sr (M1.up us k).k (M1.up us k).tr (M1.up us k).id (M1.up us k).pa (M1.up us k).s (M1.up us k).st (M1.up us k).en (M1.up us k).lv = true := hu
    by_cases hk0 : k = 0
    ·have hkb : decide ((0 : Int) < (k : Int)) = false := by simp; omega
     have hkb2 : decide (0 < k) = false := by simp; omega
     have hke : ((k : Int) == 0) = true := by simp; omega
     have hke2 : (k == 0) = true := by simp; omega
     clear hc g1
     by_cases hd : (M1.up us k).dn = 1
     ·have HQ : Hid (∀ j, j < k + 1 → M1.okAt us j = true) := fun j hj => by
       by_cases e : j = k
       ·rw [e]; exact (by unfold M1.okAt; rw [hu, if_pos hk0, decide_eq_true hd]; rfl)
       ·exact hall.out j (by omega)
      clear hall
      have hdb : ((M1.up us k).dn != 1) = false := by simp [hd]
      clear hd hu hk0
      go_wp2_with fail
      refine (updateOk_impl _ _ _ _ _ _ _ _ _ _ _ _ _ _ hs).mono ?_
      rw [hok]
      rintro e w1 ⟨rfl, hb1⟩
      have hK1 : Kp (wr.alloc (.cells #[.int .i64 (M1.up us k).dr, .int .i64 (M1.up us k).dn, .int .i64 (M1.up us k).sw, .int .i64 (M1.up us k).sc, .int .i64 (M1.up us k).sr, .int .i64 (M1.up us k).k, .int .i64 (M1.up us k).tr, .int .i64 (M1.up us k).id, .int .i64 (M1.up us k).pa, .string (M1.up us k).s, .int .i64 (M1.up us k).st, .int .i64 (M1.up us k).en, .int .i64 (M1.up us k).lv] 72)) w1 := kp_of hb1
      clear hb1
      go_wp2_with fail
      refine wp_region_held_drew (S := fun w' => Kp (wr.alloc (.cells #[.int .i64 (M1.up us k).dr, .int .i64 (M1.up us k).dn, .int .i64 (M1.up us k).sw, .int .i64 (M1.up us k).sc, .int .i64 (M1.up us k).sr, .int .i64 (M1.up us k).k, .int .i64 (M1.up us k).tr, .int .i64 (M1.up us k).id, .int .i64 (M1.up us k).pa, .string (M1.up us k).s, .int .i64 (M1.up us k).st, .int .i64 (M1.up us k).en, .int .i64 (M1.up us k).lv] 72)) w') (by kernel_rfl) ?_ (fun hHeld => ?_)
      ·exact kp_drew hK1
      refine tZ (i:=0) (v:=?_) rfl (.inl ⟨by rfl, ?_⟩) hHeld ?_
      rotate_left
      ·(intro w hSw; (try dsimp only at hSw); go_simp; try (with_reducible rfl))
      (try simp only [Act.put, zZ])
      refine tZ (i:=1) (v:=?_) rfl (.inl ⟨by rfl, ?_⟩) hHeld ?_
      rotate_left
      ·(intro w hSw; (try dsimp only at hSw); go_simp; try (with_reducible rfl))
      (try simp only [Act.put, zZ])
      refine tZ (i:=2) (v:=?_) rfl (.inl ⟨by rfl, ?_⟩) hHeld ?_
      rotate_left
      ·(intro w hSw; (try dsimp only at hSw); go_simp; try (with_reducible rfl))
      (try simp only [Act.put, zZ])
      refine tZ (i:=3) (v:=?_) rfl (.inl ⟨by rfl, ?_⟩) hHeld ?_
      rotate_left
      ·(intro w hSw; (try dsimp only at hSw); go_simp; try (with_reducible rfl))
      (try simp only [Act.put, zZ])
      refine tZ (i:=4) (v:=?_) rfl (.inl ⟨by rfl, ?_⟩) hHeld ?_
      rotate_left
      ·(intro w hSw; (try dsimp only at hSw); go_simp; try (with_reducible rfl))
      (try simp only [Act.put, zZ])
      refine tZ (i:=5) (v:=?_) rfl (.inl ⟨by rfl, ?_⟩) hHeld ?_
      rotate_left
      ·(intro w hSw; (try dsimp only at hSw); go_simp; try (with_reducible rfl))
      (try simp only [Act.put, zZ])
      refine tZ (i:=6) (v:=?_) rfl (.inl ⟨by rfl, ?_⟩) hHeld ?_
      rotate_left
      ·(intro w hSw; (try dsimp only at hSw); go_simp; try (with_reducible rfl))
      (try simp only [Act.put, zZ])
      refine tZ (i:=7) (v:=?_) rfl (.inl ⟨by rfl, ?_⟩) hHeld ?_
      rotate_left
      ·(intro w hSw; (try dsimp only at hSw); go_simp; try (with_reducible rfl))
      (try simp only [Act.put, zZ])
      refine tZ (i:=8) (v:=?_) rfl (.inl ⟨by rfl, ?_⟩) hHeld ?_
      rotate_left
      ·(intro w hSw; (try dsimp only at hSw); go_simp; try (with_reducible rfl))
      (try simp only [Act.put, zZ])
      refine tZ (i:=9) (v:=?_) rfl (.inl ⟨by rfl, ?_⟩) hHeld ?_
      rotate_left
      ·(intro w hSw; (try dsimp only at hSw); go_simp; try (with_reducible rfl))
      (try simp only [Act.put, zZ])
      refine tZ (i:=10) (v:=?_) rfl (.inl ⟨by rfl, ?_⟩) hHeld ?_
      rotate_left
      ·(intro w hSw; (try dsimp only at hSw); go_simp; try (with_reducible rfl))
      (try simp only [Act.put, zZ])
      refine tZ (i:=11) (v:=?_) rfl (.inl ⟨by rfl, ?_⟩) hHeld ?_
      rotate_left
      ·(intro w hSw; (try dsimp only at hSw); go_simp; try (with_reducible rfl))
      (try simp only [Act.put, zZ])
      refine tZ (i:=12) (v:=undef) rfl (.inr ⟨by rfl, rfl⟩) hHeld ?_
      (try simp only [Act.put, zZ])
      refine tZ (i:=13) (v:=undef) rfl (.inr ⟨by rfl, rfl⟩) hHeld ?_
      (try simp only [Act.put, zZ])
      refine tZ (i:=14) (v:=undef) rfl (.inr ⟨by rfl, rfl⟩) hHeld ?_
      (try simp only [Act.put, zZ])
      refine tZ (i:=15) (v:=undef) rfl (.inr ⟨by rfl, rfl⟩) hHeld ?_
      (try simp only [Act.put, zZ])
      refine tZ (i:=16) (v:=undef) rfl (.inr ⟨by rfl, rfl⟩) hHeld ?_
      (try simp only [Act.put, zZ])
      refine tZ (i:=17) (v:=undef) rfl (.inr ⟨by rfl, rfl⟩) hHeld ?_
      (try simp only [Act.put, zZ])
      refine tZ (i:=18) (v:=undef) rfl (.inr ⟨by rfl, rfl⟩) hHeld ?_
      (try simp only [Act.put, zZ])
      refine tZ (i:=19) (v:=undef) rfl (.inr ⟨by rfl, rfl⟩) hHeld ?_
      (try simp only [Act.put, zZ])
      refine tZ (i:=20) (v:=?_) rfl (.inl ⟨by rfl, ?_⟩) hHeld ?_
      rotate_left
      ·(intro w hSw; (try dsimp only at hSw); go_simp; try (with_reducible rfl))
      (try simp only [Act.put, zZ])
      refine tZ (i:=21) (v:=?_) rfl (.inl ⟨by rfl, ?_⟩) hHeld ?_
      rotate_left
      ·(intro w hSw; (try dsimp only at hSw); go_simp; try (with_reducible rfl))
      (try simp only [Act.put, zZ])
      refine wpAnyH_done (by kernel_rfl) ?_ _
      clear hK1
      have hK1 := hHeld
      clear hHeld
      have hK2 := hK1.2
      go_wp2_with fail
      clear hK2
      exact ⟨⟨k + 1, by omega, by go_num, hB.trans (((Below.refl _ _).alloc (Nat.le_refl _) _ |>.trans (hK1.1.mono (by simp))).mono hB.size), HQ⟩, by simp [intOf]; omega⟩
     ·have HQ : Hid (M1.setOk us = false) := M1.setOk_no (j := k) (by have := hl1.out; omega) (by unfold M1.okAt; rw [hu, if_pos hk0, decide_eq_false hd]; rfl)
      clear hall
      have hdb : ((M1.up us k).dn != 1) = true := by simp [hd]
      clear hd hu hk0
      go_wp2_with fail
      refine (updateOk_impl _ _ _ _ _ _ _ _ _ _ _ _ _ _ hs).mono ?_
      rw [hok]
      rintro e w1 ⟨rfl, hb1⟩
      have hK1 : Kp (wr.alloc (.cells #[.int .i64 (M1.up us k).dr, .int .i64 (M1.up us k).dn, .int .i64 (M1.up us k).sw, .int .i64 (M1.up us k).sc, .int .i64 (M1.up us k).sr, .int .i64 (M1.up us k).k, .int .i64 (M1.up us k).tr, .int .i64 (M1.up us k).id, .int .i64 (M1.up us k).pa, .string (M1.up us k).s, .int .i64 (M1.up us k).st, .int .i64 (M1.up us k).en, .int .i64 (M1.up us k).lv] 72)) w1 := kp_of hb1
      clear hb1
      go_wp2_with fail
      refine wp_region_held_drew (S := fun w' => Kp (wr.alloc (.cells #[.int .i64 (M1.up us k).dr, .int .i64 (M1.up us k).dn, .int .i64 (M1.up us k).sw, .int .i64 (M1.up us k).sc, .int .i64 (M1.up us k).sr, .int .i64 (M1.up us k).k, .int .i64 (M1.up us k).tr, .int .i64 (M1.up us k).id, .int .i64 (M1.up us k).pa, .string (M1.up us k).s, .int .i64 (M1.up us k).st, .int .i64 (M1.up us k).en, .int .i64 (M1.up us k).lv] 72)) w') (by kernel_rfl) ?_ (fun hHeld => ?_)
      ·exact kp_drew hK1
      refine tZ (i:=0) (v:=?_) rfl (.inl ⟨by rfl, ?_⟩) hHeld ?_
      rotate_left
      ·(intro w hSw; (try dsimp only at hSw); go_simp; try (with_reducible rfl))
      (try simp only [Act.put, zZ])
      refine tZ (i:=1) (v:=?_) rfl (.inl ⟨by rfl, ?_⟩) hHeld ?_
      rotate_left
      ·(intro w hSw; (try dsimp only at hSw); go_simp; try (with_reducible rfl))
      (try simp only [Act.put, zZ])
      refine tZ (i:=2) (v:=?_) rfl (.inl ⟨by rfl, ?_⟩) hHeld ?_
      rotate_left
      ·(intro w hSw; (try dsimp only at hSw); go_simp; try (with_reducible rfl))
      (try simp only [Act.put, zZ])
      refine tZ (i:=3) (v:=?_) rfl (.inl ⟨by rfl, ?_⟩) hHeld ?_
      rotate_left
      ·(intro w hSw; (try dsimp only at hSw); go_simp; try (with_reducible rfl))
      (try simp only [Act.put, zZ])
      refine tZ (i:=4) (v:=?_) rfl (.inl ⟨by rfl, ?_⟩) hHeld ?_
      rotate_left
      ·(intro w hSw; (try dsimp only at hSw); go_simp; try (with_reducible rfl))
      (try simp only [Act.put, zZ])
      refine tZ (i:=5) (v:=?_) rfl (.inl ⟨by rfl, ?_⟩) hHeld ?_
      rotate_left
      ·(intro w hSw; (try dsimp only at hSw); go_simp; try (with_reducible rfl))
      (try simp only [Act.put, zZ])
      refine tZ (i:=6) (v:=?_) rfl (.inl ⟨by rfl, ?_⟩) hHeld ?_
      rotate_left
      ·(intro w hSw; (try dsimp only at hSw); go_simp; try (with_reducible rfl))
      (try simp only [Act.put, zZ])
      refine tZ (i:=7) (v:=?_) rfl (.inl ⟨by rfl, ?_⟩) hHeld ?_
      rotate_left
      ·(intro w hSw; (try dsimp only at hSw); go_simp; try (with_reducible rfl))
      (try simp only [Act.put, zZ])
      refine tZ (i:=8) (v:=?_) rfl (.inl ⟨by rfl, ?_⟩) hHeld ?_
      rotate_left
      ·(intro w hSw; (try dsimp only at hSw); go_simp; try (with_reducible rfl))
      (try simp only [Act.put, zZ])
      refine tZ (i:=9) (v:=undef) rfl (.inr ⟨by rfl, rfl⟩) hHeld ?_
      (try simp only [Act.put, zZ])
      refine tZ (i:=10) (v:=undef) rfl (.inr ⟨by rfl, rfl⟩) hHeld ?_
      (try simp only [Act.put, zZ])
      refine tZ (i:=11) (v:=undef) rfl (.inr ⟨by rfl, rfl⟩) hHeld ?_
      (try simp only [Act.put, zZ])
      refine tZ (i:=12) (v:=undef) rfl (.inr ⟨by rfl, rfl⟩) hHeld ?_
      (try simp only [Act.put, zZ])
      refine tZ (i:=13) (v:=undef) rfl (.inr ⟨by rfl, rfl⟩) hHeld ?_
      (try simp only [Act.put, zZ])
      refine tZ (i:=14) (v:=undef) rfl (.inr ⟨by rfl, rfl⟩) hHeld ?_
      (try simp only [Act.put, zZ])
      refine tZ (i:=15) (v:=undef) rfl (.inr ⟨by rfl, rfl⟩) hHeld ?_
      (try simp only [Act.put, zZ])
      refine tZ (i:=16) (v:=undef) rfl (.inr ⟨by rfl, rfl⟩) hHeld ?_
      (try simp only [Act.put, zZ])
      refine tZ (i:=17) (v:=undef) rfl (.inr ⟨by rfl, rfl⟩) hHeld ?_
      (try simp only [Act.put, zZ])
      refine tZ (i:=18) (v:=undef) rfl (.inr ⟨by rfl, rfl⟩) hHeld ?_
      (try simp only [Act.put, zZ])
      refine tZ (i:=19) (v:=undef) rfl (.inr ⟨by rfl, rfl⟩) hHeld ?_
      (try simp only [Act.put, zZ])
      refine tZ (i:=20) (v:=undef) rfl (.inr ⟨by rfl, rfl⟩) hHeld ?_
      (try simp only [Act.put, zZ])
      refine tZ (i:=21) (v:=?_) rfl (.inl ⟨by rfl, ?_⟩) hHeld ?_
      rotate_left
      ·(intro w hSw; (try dsimp only at hSw); go_simp; try (with_reducible rfl))
      (try simp only [Act.put, zZ])
      refine wpAnyH_done (by kernel_rfl) ?_ _
      clear hK1
      have hK1 := hHeld
      clear hHeld
      have hK2 := hK1.2
      go_wp2_with fail
      clear hK2
      go_ret
      exact ⟨by rw [HQ.out]; rfl, hB.trans (((Below.refl _ _).alloc (Nat.le_refl _) _ |>.trans (hK1.1.mono (by simp))).mono hB.size)⟩
    ·obtain ⟨p0, p1, p2, p3, p4, p5, p6, p7, p8, p9, p10, p11, p12⟩ := hc (k - 1) (by omega)
     have i6 : (1 : Int) ≤ (k : Int) := by omega
     have i2 : (0 : Int) < (k : Int) := by omega
     have hkb : decide ((0 : Int) < (k : Int)) = true := by simp; omega
     have hkb2 : decide (0 < k) = true := by simp; omega
     have hke : ((k : Int) == 0) = false := by simp; omega
     have hke2 : (k == 0) = false := by simp; omega
     have i3 : (0 : Int) ≤ (k : Int) - 1 := by omega
     have i5 : IntKind.i64.wrap ((k : Int) - 1) = (k : Int) - 1 := IntWalk.i64_in _ (by omega)
     have i4 : (k : Int) - 1 < (n : Int) := by omega
     obtain ⟨_, _, q3, q4⟩ := M1.okU_dot (M1.okAt_ok (hall.out (k - 1) (by omega)))
     have i7 : IntKind.i64.wrap ((M1.up us (k - 1)).dn + 1) = (M1.up us (k - 1)).dn + 1 := IntWalk.i64_in _ (by omega)
     clear hc g1
     by_cases ha : M1.fol (M1.up us (k - 1)) (M1.up us k) = true
     ·have HQ : Hid (∀ j, j < k + 1 → M1.okAt us j = true) := fun j hj => by
       by_cases e : j = k
       ·rw [e]; exact (by unfold M1.okAt; rw [hu, if_neg hk0, ha]; rfl)
       ·exact hall.out j (by omega)
      clear hall
      clear hu hk0
      go_wp2_with fail
      refine (updateOk_impl _ _ _ _ _ _ _ _ _ _ _ _ _ _ hs).mono ?_
      rw [hok]
      rintro e w1 ⟨rfl, hb1⟩
      have hK1 : Kp (wr.alloc (.cells #[.int .i64 (M1.up us k).dr, .int .i64 (M1.up us k).dn, .int .i64 (M1.up us k).sw, .int .i64 (M1.up us k).sc, .int .i64 (M1.up us k).sr, .int .i64 (M1.up us k).k, .int .i64 (M1.up us k).tr, .int .i64 (M1.up us k).id, .int .i64 (M1.up us k).pa, .string (M1.up us k).s, .int .i64 (M1.up us k).st, .int .i64 (M1.up us k).en, .int .i64 (M1.up us k).lv] 72)) w1 := kp_of hb1
      clear hb1
      go_wp2_with fail
      refine wp_region_held_drew (S := fun w' => Kp (wr.alloc (.cells #[.int .i64 (M1.up us k).dr, .int .i64 (M1.up us k).dn, .int .i64 (M1.up us k).sw, .int .i64 (M1.up us k).sc, .int .i64 (M1.up us k).sr, .int .i64 (M1.up us k).k, .int .i64 (M1.up us k).tr, .int .i64 (M1.up us k).id, .int .i64 (M1.up us k).pa, .string (M1.up us k).s, .int .i64 (M1.up us k).st, .int .i64 (M1.up us k).en, .int .i64 (M1.up us k).lv] 72)) w') (by kernel_rfl) ?_ (fun hHeld => ?_)
      ·exact kp_drew hK1
      refine tZ (i:=0) (v:=?_) rfl (.inl ⟨by rfl, ?_⟩) hHeld ?_
      rotate_left
      ·(intro w hSw; (try dsimp only at hSw); go_simp; try (with_reducible rfl))
      (try simp only [Act.put, zZ])
      refine tZ (i:=1) (v:=?_) rfl (.inl ⟨by rfl, ?_⟩) hHeld ?_
      rotate_left
      ·(intro w hSw; (try dsimp only at hSw); go_simp; try (with_reducible rfl))
      (try simp only [Act.put, zZ])
      refine tZ (i:=2) (v:=?_) rfl (.inl ⟨by rfl, ?_⟩) hHeld ?_
      rotate_left
      ·(intro w hSw; (try dsimp only at hSw); go_simp; try (with_reducible rfl))
      (try simp only [Act.put, zZ])
      refine tZ (i:=3) (v:=undef) rfl (.inr ⟨by rfl, rfl⟩) hHeld ?_
      (try simp only [Act.put, zZ])
      refine tZ (i:=4) (v:=undef) rfl (.inr ⟨by rfl, rfl⟩) hHeld ?_
      (try simp only [Act.put, zZ])
      refine tZ (i:=5) (v:=undef) rfl (.inr ⟨by rfl, rfl⟩) hHeld ?_
      (try simp only [Act.put, zZ])
      refine tZ (i:=6) (v:=undef) rfl (.inr ⟨by rfl, rfl⟩) hHeld ?_
      (try simp only [Act.put, zZ])
      refine tZ (i:=7) (v:=?_) rfl (.inl ⟨by rfl, ?_⟩) hHeld ?_
      rotate_left
      ·(intro w hSw; (try dsimp only at hSw); go_simp; try (with_reducible rfl))
      (try simp only [Act.put, zZ])
      refine tZ (i:=8) (v:=?_) rfl (.inl ⟨by rfl, ?_⟩) hHeld ?_
      rotate_left
      ·(intro w hSw; (try dsimp only at hSw); go_simp; try (with_reducible rfl))
      (try simp only [Act.put, zZ])
      refine tZ (i:=9) (v:=?_) rfl (.inl ⟨by rfl, ?_⟩) hHeld ?_
      rotate_left
      ·(intro w hSw; (try dsimp only at hSw); go_simp; try (with_reducible rfl))
      (try simp only [Act.put, zZ])
      refine tZ (i:=10) (v:=?_) rfl (.inl ⟨by rfl, ?_⟩) hHeld ?_
      rotate_left
      ·(intro w hSw; (try dsimp only at hSw); go_simp; try (with_reducible rfl))
      (try simp only [Act.put, zZ])
      refine tZ (i:=11) (v:=?_) rfl (.inl ⟨by rfl, ?_⟩) hHeld ?_
      rotate_left
      ·(intro w hSw; (try dsimp only at hSw); go_simp; try (with_reducible rfl))
      (try simp only [Act.put, zZ])
      refine tZ (i:=12) (v:=?_) rfl (.inl ⟨by rfl, ?_⟩) hHeld ?_
      rotate_left
      ·(intro w hSw; (try dsimp only at hSw); go_simp; try (with_reducible rfl))
      (try simp only [Act.put, zZ])
      refine tZ (i:=13) (v:=?_) rfl (.inl ⟨by rfl, ?_⟩) hHeld ?_
      rotate_left
      ·(intro w hSw; (try dsimp only at hSw); go_simp; try (with_reducible rfl))
      (try simp only [Act.put, zZ])
      refine tZ (i:=14) (v:=?_) rfl (.inl ⟨by rfl, ?_⟩) hHeld ?_
      rotate_left
      ·(intro w hSw; (try dsimp only at hSw); go_simp; try (with_reducible rfl))
      (try simp only [Act.put, zZ])
      refine tZ (i:=15) (v:=?_) rfl (.inl ⟨by rfl, ?_⟩) hHeld ?_
      rotate_left
      ·(intro w hSw; (try dsimp only at hSw); go_simp; try (with_reducible rfl))
      (try simp only [Act.put, zZ])
      refine tZ (i:=16) (v:=?_) rfl (.inl ⟨by rfl, ?_⟩) hHeld ?_
      rotate_left
      ·(intro w hSw; (try dsimp only at hSw); go_simp; try (with_reducible rfl))
      (try simp only [Act.put, zZ])
      refine tZ (i:=17) (v:=?_) rfl (.inl ⟨by rfl, ?_⟩) hHeld ?_
      rotate_left
      ·(intro w hSw; (try dsimp only at hSw); go_simp; try (with_reducible rfl))
      (try simp only [Act.put, zZ])
      refine wpAnyH_ready (rs := [18]) (by kernel_rfl) (by simp) ?_
      refine AllReadyH.cons (o := _) rfl (fun K hK => ?_) AllReadyH.nil
      go_simp
      (refine (follows_any (M1.up us (k - 1)) (M1.up us k) _ i7).mono ?_; rw [ha]; rintro e w' ⟨rfl, hb⟩; go_wp2_with fail)
      refine hK.out _ _ ?_ (fun hHeld2 => ?_)
      ·exact kp_step hHeld hb
      clear hK K hHeld
      have hHeld := hHeld2
      clear hHeld2
      (try simp only [Act.put, zZ])
      refine tZ (i:=19) (v:=?_) rfl (.inl ⟨by rfl, ?_⟩) hHeld ?_
      rotate_left
      ·(intro w hSw; (try dsimp only at hSw); go_simp; try (with_reducible rfl))
      (try simp only [Act.put, zZ])
      refine tZ (i:=20) (v:=?_) rfl (.inl ⟨by rfl, ?_⟩) hHeld ?_
      rotate_left
      ·(intro w hSw; (try dsimp only at hSw); go_simp; try (with_reducible rfl))
      (try simp only [Act.put, zZ])
      refine tZ (i:=21) (v:=?_) rfl (.inl ⟨by rfl, ?_⟩) hHeld ?_
      rotate_left
      ·(intro w hSw; (try dsimp only at hSw); go_simp; try (with_reducible rfl))
      (try simp only [Act.put, zZ])
      refine wpAnyH_done (by kernel_rfl) ?_ _
      clear hK1
      have hK1 := hHeld
      clear hHeld
      have hK2 := hK1.2
      go_wp2_with fail
      clear hK2
      exact ⟨⟨k + 1, by omega, by go_num, hB.trans (((Below.refl _ _).alloc (Nat.le_refl _) _ |>.trans (hK1.1.mono (by simp))).mono hB.size), HQ⟩, by simp [intOf]; omega⟩
     ·replace ha : M1.fol (M1.up us (k - 1)) (M1.up us k) = false := by simpa using ha
      have HQ : Hid (M1.setOk us = false) := M1.setOk_no (j := k) (by have := hl1.out; omega) (by unfold M1.okAt; rw [hu, if_neg hk0, ha]; rfl)
      clear hall
      clear hu hk0
      go_wp2_with fail
      refine (updateOk_impl _ _ _ _ _ _ _ _ _ _ _ _ _ _ hs).mono ?_
      rw [hok]
      rintro e w1 ⟨rfl, hb1⟩
      have hK1 : Kp (wr.alloc (.cells #[.int .i64 (M1.up us k).dr, .int .i64 (M1.up us k).dn, .int .i64 (M1.up us k).sw, .int .i64 (M1.up us k).sc, .int .i64 (M1.up us k).sr, .int .i64 (M1.up us k).k, .int .i64 (M1.up us k).tr, .int .i64 (M1.up us k).id, .int .i64 (M1.up us k).pa, .string (M1.up us k).s, .int .i64 (M1.up us k).st, .int .i64 (M1.up us k).en, .int .i64 (M1.up us k).lv] 72)) w1 := kp_of hb1
      clear hb1
      go_wp2_with fail
      refine wp_region_held_drew (S := fun w' => Kp (wr.alloc (.cells #[.int .i64 (M1.up us k).dr, .int .i64 (M1.up us k).dn, .int .i64 (M1.up us k).sw, .int .i64 (M1.up us k).sc, .int .i64 (M1.up us k).sr, .int .i64 (M1.up us k).k, .int .i64 (M1.up us k).tr, .int .i64 (M1.up us k).id, .int .i64 (M1.up us k).pa, .string (M1.up us k).s, .int .i64 (M1.up us k).st, .int .i64 (M1.up us k).en, .int .i64 (M1.up us k).lv] 72)) w') (by kernel_rfl) ?_ (fun hHeld => ?_)
      ·exact kp_drew hK1
      refine tZ (i:=0) (v:=?_) rfl (.inl ⟨by rfl, ?_⟩) hHeld ?_
      rotate_left
      ·(intro w hSw; (try dsimp only at hSw); go_simp; try (with_reducible rfl))
      (try simp only [Act.put, zZ])
      refine tZ (i:=1) (v:=?_) rfl (.inl ⟨by rfl, ?_⟩) hHeld ?_
      rotate_left
      ·(intro w hSw; (try dsimp only at hSw); go_simp; try (with_reducible rfl))
      (try simp only [Act.put, zZ])
      refine tZ (i:=2) (v:=?_) rfl (.inl ⟨by rfl, ?_⟩) hHeld ?_
      rotate_left
      ·(intro w hSw; (try dsimp only at hSw); go_simp; try (with_reducible rfl))
      (try simp only [Act.put, zZ])
      refine tZ (i:=3) (v:=undef) rfl (.inr ⟨by rfl, rfl⟩) hHeld ?_
      (try simp only [Act.put, zZ])
      refine tZ (i:=4) (v:=undef) rfl (.inr ⟨by rfl, rfl⟩) hHeld ?_
      (try simp only [Act.put, zZ])
      refine tZ (i:=5) (v:=undef) rfl (.inr ⟨by rfl, rfl⟩) hHeld ?_
      (try simp only [Act.put, zZ])
      refine tZ (i:=6) (v:=undef) rfl (.inr ⟨by rfl, rfl⟩) hHeld ?_
      (try simp only [Act.put, zZ])
      refine tZ (i:=7) (v:=?_) rfl (.inl ⟨by rfl, ?_⟩) hHeld ?_
      rotate_left
      ·(intro w hSw; (try dsimp only at hSw); go_simp; try (with_reducible rfl))
      (try simp only [Act.put, zZ])
      refine tZ (i:=8) (v:=?_) rfl (.inl ⟨by rfl, ?_⟩) hHeld ?_
      rotate_left
      ·(intro w hSw; (try dsimp only at hSw); go_simp; try (with_reducible rfl))
      (try simp only [Act.put, zZ])
      refine tZ (i:=9) (v:=?_) rfl (.inl ⟨by rfl, ?_⟩) hHeld ?_
      rotate_left
      ·(intro w hSw; (try dsimp only at hSw); go_simp; try (with_reducible rfl))
      (try simp only [Act.put, zZ])
      refine tZ (i:=10) (v:=?_) rfl (.inl ⟨by rfl, ?_⟩) hHeld ?_
      rotate_left
      ·(intro w hSw; (try dsimp only at hSw); go_simp; try (with_reducible rfl))
      (try simp only [Act.put, zZ])
      refine tZ (i:=11) (v:=?_) rfl (.inl ⟨by rfl, ?_⟩) hHeld ?_
      rotate_left
      ·(intro w hSw; (try dsimp only at hSw); go_simp; try (with_reducible rfl))
      (try simp only [Act.put, zZ])
      refine tZ (i:=12) (v:=?_) rfl (.inl ⟨by rfl, ?_⟩) hHeld ?_
      rotate_left
      ·(intro w hSw; (try dsimp only at hSw); go_simp; try (with_reducible rfl))
      (try simp only [Act.put, zZ])
      refine tZ (i:=13) (v:=?_) rfl (.inl ⟨by rfl, ?_⟩) hHeld ?_
      rotate_left
      ·(intro w hSw; (try dsimp only at hSw); go_simp; try (with_reducible rfl))
      (try simp only [Act.put, zZ])
      refine tZ (i:=14) (v:=?_) rfl (.inl ⟨by rfl, ?_⟩) hHeld ?_
      rotate_left
      ·(intro w hSw; (try dsimp only at hSw); go_simp; try (with_reducible rfl))
      (try simp only [Act.put, zZ])
      refine tZ (i:=15) (v:=?_) rfl (.inl ⟨by rfl, ?_⟩) hHeld ?_
      rotate_left
      ·(intro w hSw; (try dsimp only at hSw); go_simp; try (with_reducible rfl))
      (try simp only [Act.put, zZ])
      refine tZ (i:=16) (v:=?_) rfl (.inl ⟨by rfl, ?_⟩) hHeld ?_
      rotate_left
      ·(intro w hSw; (try dsimp only at hSw); go_simp; try (with_reducible rfl))
      (try simp only [Act.put, zZ])
      refine tZ (i:=17) (v:=?_) rfl (.inl ⟨by rfl, ?_⟩) hHeld ?_
      rotate_left
      ·(intro w hSw; (try dsimp only at hSw); go_simp; try (with_reducible rfl))
      (try simp only [Act.put, zZ])
      refine wpAnyH_ready (rs := [18]) (by kernel_rfl) (by simp) ?_
      refine AllReadyH.cons (o := _) rfl (fun K hK => ?_) AllReadyH.nil
      go_simp
      (refine (follows_any (M1.up us (k - 1)) (M1.up us k) _ i7).mono ?_; rw [ha]; rintro e w' ⟨rfl, hb⟩; go_wp2_with fail)
      refine hK.out _ _ ?_ (fun hHeld2 => ?_)
      ·exact kp_step hHeld hb
      clear hK K hHeld
      have hHeld := hHeld2
      clear hHeld2
      (try simp only [Act.put, zZ])
      refine tZ (i:=19) (v:=?_) rfl (.inl ⟨by rfl, ?_⟩) hHeld ?_
      rotate_left
      ·(intro w hSw; (try dsimp only at hSw); go_simp; try (with_reducible rfl))
      (try simp only [Act.put, zZ])
      refine tZ (i:=20) (v:=?_) rfl (.inl ⟨by rfl, ?_⟩) hHeld ?_
      rotate_left
      ·(intro w hSw; (try dsimp only at hSw); go_simp; try (with_reducible rfl))
      (try simp only [Act.put, zZ])
      refine tZ (i:=21) (v:=?_) rfl (.inl ⟨by rfl, ?_⟩) hHeld ?_
      rotate_left
      ·(intro w hSw; (try dsimp only at hSw); go_simp; try (with_reducible rfl))
      (try simp only [Act.put, zZ])
      refine wpAnyH_done (by kernel_rfl) ?_ _
      clear hK1
      have hK1 := hHeld
      clear hHeld
      have hK2 := hK1.2
      go_wp2_with fail
      clear hK2
      go_ret
      exact ⟨by rw [HQ.out]; rfl, hB.trans (((Below.refl _ _).alloc (Nat.le_refl _) _ |>.trans (hK1.1.mono (by simp))).mono hB.size)⟩
   ·replace hu : M1.okU (M1.up us k) = false := by simpa using hu
    have hok : M1.updB (M1.up us k).dr (M1.up us k).dn (M1.up us k).sw (M1.up us k).sc (M1.up us k).sr (M1.up us k).k (M1.up us k).tr (M1.up us k).id (M1.up us k).pa (M1.up us k).s (M1.up us k).st (M1.up us k).en (M1.up us k).lv = false := hu
    have HQ : Hid (M1.setOk us = false) := M1.setOk_no (j := k) (by have := hl1.out; omega) (by unfold M1.okAt; rw [hu]; rfl)
    clear hall
    clear hu hc g1
    go_wp2_with fail
    refine (updateOk_impl _ _ _ _ _ _ _ _ _ _ _ _ _ _ hs).mono ?_
    rw [hok]
    rintro e w1 ⟨rfl, hb1⟩
    have hK1 : Kp (wr.alloc (.cells #[.int .i64 (M1.up us k).dr, .int .i64 (M1.up us k).dn, .int .i64 (M1.up us k).sw, .int .i64 (M1.up us k).sc, .int .i64 (M1.up us k).sr, .int .i64 (M1.up us k).k, .int .i64 (M1.up us k).tr, .int .i64 (M1.up us k).id, .int .i64 (M1.up us k).pa, .string (M1.up us k).s, .int .i64 (M1.up us k).st, .int .i64 (M1.up us k).en, .int .i64 (M1.up us k).lv] 72)) w1 := kp_of hb1
    clear hb1
    go_wp2_with fail
    go_ret
    exact ⟨by rw [HQ.out]; rfl, hB.trans (((Below.refl _ _).alloc (Nat.le_refl _) _ |>.trans (hK1.1.mono (by simp))).mono hB.size)⟩
  ·have HQ : Hid (M1.setOk us = true) := by
    show M1.setOk us = _
    have := hl1.out
    rw [M1.setOk_yes (fun j hj => hall.out j (by omega)), this]
    simp; omega
   clear hall
   go_wp2_with fail
   go_ret
   exact ⟨by rw [HQ.out]; rfl, hB⟩

end Go.Proofs.YtgcinolbkllkkaaGreat
