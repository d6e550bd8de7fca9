/-
  Texts of one proof, joined: VecOkSpec.
-/
import Derived.Test.YtgcinolbkllkkaaGreatZXWorldOk02
namespace Go.Proofs.YtgcinolbkllkkaaGreat
open Go.ChangeShapes Go.WideShapes Go.ChangeAt Go.RowKit
set_option linter.unusedSimpArgs false
set_option maxHeartbeats 2000000 in
theorem vecOk_spec (av : Option Addr) (n cn : Nat) (ds : List (Int × Int)) (w : World) (h1 : IsVec w av n cn ds) :
  Calls Tryz.prog 61 #[.slice av n cn] w fun e w' => e = .returned (.bool (M1.vecOk ds)) ∧ Below w.heap.size w w' := by
 have hl1 : Hid (ds.length = n) := h1.hlen
 have hm1 := h1.hcap
 have hm2 := h1.hmost
 unfold maxLen at hm2
 go_enter Tryz.func61, Tryz.ntmps61
 go_wp2
 go_loopw [3] (fun i wr => ∃ k : Nat, k ≤ n ∧ i = .int .i64 k ∧ Below w.heap.size w wr ∧ Hid (∀ j, j < k → M1.vokAt ds j = true)) (fun i _ => n - (intOf i).toNat)
 case atStart => exact ⟨0, Nat.zero_le _, rfl, Below.refl _ _, fun j hj => absurd hj (Nat.not_lt_zero _)⟩
 case round =>
  obtain ⟨k, hk, rfl, hB, hall⟩ := hrel
  by_cases hlt : k < n
  ·have g1 := h1.below hB
   rcases g1.hlies with h0 | ⟨b, off, rfl, hb, hc⟩
   ·omega
   obtain ⟨c1, c2⟩ := hc k hlt
   have i0 : (0 : Int) ≤ (k : Int) := by omega
   have i1 : (k : Int) < (n : Int) := by omega
   by_cases hd : M1.dotOk (M1.rg ds k) (M1.nm ds k) = true
   ·have hd' := hd
    by_cases hk0 : k = 0
    ·have HQ : Hid (∀ j, j < k + 1 → M1.vokAt ds j = true) := fun j hj => by
      have e : j = k := by omega
      rw [e]; simp [M1.vokAt, hd]; exact Or.inl hk0
     have hkb : decide ((0 : Int) < (k : Int)) = false := by simp; omega
     have hkb2 : decide (0 < k) = false := by simp; omega
     clear hc g1 hall hd hk0
     go_wp2_with fail
     refine wp_region_held_drew (S := fun w' => Kp wr w') (by kernel_rfl) ?_ (fun hHeld => ?_)
     ·exact kp_zero _
     refine tZ (i:=0) (v:=?_) rfl (.inl ⟨by rfl, ?_⟩) hHeld ?_
     rotate_left
     ·(intro w hSw; (try dsimp only at hSw); go_simp; try (with_reducible rfl))
     (try simp only [Act.put, zZ])
     refine tZ (i:=1) (v:=?_) rfl (.inl ⟨by rfl, ?_⟩) hHeld ?_
     rotate_left
     ·(intro w hSw; (try dsimp only at hSw); go_simp; try (with_reducible rfl))
     (try simp only [Act.put, zZ])
     refine tZ (i:=2) (v:=?_) rfl (.inl ⟨by rfl, ?_⟩) hHeld ?_
     rotate_left
     ·(intro w hSw; (try dsimp only at hSw); go_simp; try (with_reducible rfl))
     (try simp only [Act.put, zZ])
     refine tZ (i:=3) (v:=?_) rfl (.inl ⟨by rfl, ?_⟩) hHeld ?_
     rotate_left
     ·(intro w hSw; (try dsimp only at hSw); go_simp; try (with_reducible rfl))
     (try simp only [Act.put, zZ])
     refine wpAnyH_ready (rs := [4]) (by kernel_rfl) (by simp) ?_
     refine AllReadyH.cons (o := _) rfl (fun K hK => ?_) AllReadyH.nil
     go_simp
     (refine (l1Dot_any _ _ _).mono ?_; rw [hd']; rintro e w' ⟨rfl, hb⟩; go_wp2_with fail)
     refine hK.out _ _ ?_ (fun hHeld2 => ?_)
     ·exact kp_step hHeld hb
     clear hK K hHeld
     have hHeld := hHeld2
     clear hHeld2
     (try simp only [Act.put, zZ])
     refine tZ (i:=5) (v:=?_) rfl (.inl ⟨by rfl, ?_⟩) hHeld ?_
     rotate_left
     ·(intro w hSw; (try dsimp only at hSw); go_simp; try (with_reducible rfl))
     (try simp only [Act.put, zZ])
     refine tZ (i:=6) (v:=?_) rfl (.inl ⟨by rfl, ?_⟩) hHeld ?_
     rotate_left
     ·(intro w hSw; (try dsimp only at hSw); go_simp; try (with_reducible rfl))
     (try simp only [Act.put, zZ])
     refine tZ (i:=7) (v:=?_) rfl (.inl ⟨by rfl, ?_⟩) hHeld ?_
     rotate_left
     ·(intro w hSw; (try dsimp only at hSw); go_simp; try (with_reducible rfl))
     (try simp only [Act.put, zZ])
     refine tZ (i:=8) (v:=?_) rfl (.inl ⟨by rfl, ?_⟩) hHeld ?_
     rotate_left
     ·(intro w hSw; (try dsimp only at hSw); go_simp; try (with_reducible rfl))
     (try simp only [Act.put, zZ])
     refine tZ (i:=9) (v:=?_) rfl (.inl ⟨by rfl, ?_⟩) hHeld ?_
     rotate_left
     ·(intro w hSw; (try dsimp only at hSw); go_simp; try (with_reducible rfl))
     (try simp only [Act.put, zZ])
     refine tZ (i:=10) (v:=undef) rfl (.inr ⟨by rfl, rfl⟩) hHeld ?_
     (try simp only [Act.put, zZ])
     refine tZ (i:=11) (v:=undef) rfl (.inr ⟨by rfl, rfl⟩) hHeld ?_
     (try simp only [Act.put, zZ])
     refine tZ (i:=12) (v:=undef) rfl (.inr ⟨by rfl, rfl⟩) hHeld ?_
     (try simp only [Act.put, zZ])
     refine tZ (i:=13) (v:=undef) rfl (.inr ⟨by rfl, rfl⟩) hHeld ?_
     (try simp only [Act.put, zZ])
     refine tZ (i:=14) (v:=undef) rfl (.inr ⟨by rfl, rfl⟩) hHeld ?_
     (try simp only [Act.put, zZ])
     refine tZ (i:=15) (v:=undef) rfl (.inr ⟨by rfl, rfl⟩) hHeld ?_
     (try simp only [Act.put, zZ])
     refine tZ (i:=16) (v:=undef) rfl (.inr ⟨by rfl, rfl⟩) hHeld ?_
     (try simp only [Act.put, zZ])
     refine tZ (i:=17) (v:=undef) rfl (.inr ⟨by rfl, rfl⟩) hHeld ?_
     (try simp only [Act.put, zZ])
     refine tZ (i:=18) (v:=undef) rfl (.inr ⟨by rfl, rfl⟩) hHeld ?_
     (try simp only [Act.put, zZ])
     refine tZ (i:=19) (v:=undef) rfl (.inr ⟨by rfl, rfl⟩) hHeld ?_
     (try simp only [Act.put, zZ])
     refine tZ (i:=20) (v:=undef) rfl (.inr ⟨by rfl, rfl⟩) hHeld ?_
     (try simp only [Act.put, zZ])
     refine tZ (i:=21) (v:=undef) rfl (.inr ⟨by rfl, rfl⟩) hHeld ?_
     (try simp only [Act.put, zZ])
     refine tZ (i:=22) (v:=?_) rfl (.inl ⟨by rfl, ?_⟩) hHeld ?_
     rotate_left
     ·(intro w hSw; (try dsimp only at hSw); go_simp; try (with_reducible rfl))
     (try simp only [Act.put, zZ])
     refine tZ (i:=23) (v:=?_) rfl (.inl ⟨by rfl, ?_⟩) hHeld ?_
     rotate_left
     ·(intro w hSw; (try dsimp only at hSw); go_simp; try (with_reducible rfl))
     (try simp only [Act.put, zZ])
     refine wpAnyH_done (by kernel_rfl) ?_ _
     have hB' := hB.trans (hHeld.1.mono hB.size)
     go_wp2_with fail
     exact ⟨⟨k + 1, by omega, by go_num, hB', HQ⟩, by simp [intOf]; omega⟩
    ·have c3 : wr.cell? ⟨b, off + (k - 1) * 2, none⟩ = some (.int .i64 (M1.rg ds (k - 1))) := (hc (k - 1) (by omega)).1
     have i6 : (1 : Int) ≤ (k : Int) := by omega
     have i2 : (0 : Int) < (k : Int) := by omega
     have hkb : decide ((0 : Int) < (k : Int)) = true := by simp; omega
     have hkb2 : decide (0 < k) = true := by simp; omega
     have i3 : (0 : Int) ≤ (k : Int) - 1 := by omega
     have i5 : IntKind.i64.wrap ((k : Int) - 1) = (k : Int) - 1 := IntWalk.i64_in _ (by omega)
     have i4 : (k : Int) - 1 < (n : Int) := by omega
     by_cases hr : M1.rg ds (k - 1) < M1.rg ds k
     ·have HQ : Hid (∀ i, i < k + 1 → M1.vokAt ds i = true) := fun i hi => by
       by_cases e : i = k
       ·rw [e]; simp [M1.vokAt, hd, hr]
       ·exact hall.out i (by omega)
      clear hc g1 hall hd hk0
      go_wp2_with fail
      refine wp_region_held_drew (S := fun w' => Kp wr w') (by kernel_rfl) ?_ (fun hHeld => ?_)
      ·exact kp_zero _
      refine tZ (i:=0) (v:=?_) rfl (.inl ⟨by rfl, ?_⟩) hHeld ?_
      rotate_left
      ·(intro w hSw; (try dsimp only at hSw); go_simp; try (with_reducible rfl))
      (try simp only [Act.put, zZ])
      refine tZ (i:=1) (v:=?_) rfl (.inl ⟨by rfl, ?_⟩) hHeld ?_
      rotate_left
      ·(intro w hSw; (try dsimp only at hSw); go_simp; try (with_reducible rfl))
      (try simp only [Act.put, zZ])
      refine tZ (i:=2) (v:=?_) rfl (.inl ⟨by rfl, ?_⟩) hHeld ?_
      rotate_left
      ·(intro w hSw; (try dsimp only at hSw); go_simp; try (with_reducible rfl))
      (try simp only [Act.put, zZ])
      refine tZ (i:=3) (v:=?_) rfl (.inl ⟨by rfl, ?_⟩) hHeld ?_
      rotate_left
      ·(intro w hSw; (try dsimp only at hSw); go_simp; try (with_reducible rfl))
      (try simp only [Act.put, zZ])
      refine wpAnyH_ready (rs := [4]) (by kernel_rfl) (by simp) ?_
      refine AllReadyH.cons (o := _) rfl (fun K hK => ?_) AllReadyH.nil
      go_simp
      (refine (l1Dot_any _ _ _).mono ?_; rw [hd']; rintro e w' ⟨rfl, hb⟩; go_wp2_with fail)
      refine hK.out _ _ ?_ (fun hHeld2 => ?_)
      ·exact kp_step hHeld hb
      clear hK K hHeld
      have hHeld := hHeld2
      clear hHeld2
      (try simp only [Act.put, zZ])
      refine tZ (i:=5) (v:=?_) rfl (.inl ⟨by rfl, ?_⟩) hHeld ?_
      rotate_left
      ·(intro w hSw; (try dsimp only at hSw); go_simp; try (with_reducible rfl))
      (try simp only [Act.put, zZ])
      refine tZ (i:=6) (v:=?_) rfl (.inl ⟨by rfl, ?_⟩) hHeld ?_
      rotate_left
      ·(intro w hSw; (try dsimp only at hSw); go_simp; try (with_reducible rfl))
      (try simp only [Act.put, zZ])
      refine tZ (i:=7) (v:=?_) rfl (.inl ⟨by rfl, ?_⟩) hHeld ?_
      rotate_left
      ·(intro w hSw; (try dsimp only at hSw); go_simp; try (with_reducible rfl))
      (try simp only [Act.put, zZ])
      refine tZ (i:=8) (v:=?_) rfl (.inl ⟨by rfl, ?_⟩) hHeld ?_
      rotate_left
      ·(intro w hSw; (try dsimp only at hSw); go_simp; try (with_reducible rfl))
      (try simp only [Act.put, zZ])
      refine tZ (i:=9) (v:=?_) rfl (.inl ⟨by rfl, ?_⟩) hHeld ?_
      rotate_left
      ·(intro w hSw; (try dsimp only at hSw); go_simp; try (with_reducible rfl))
      (try simp only [Act.put, zZ])
      refine tZ (i:=10) (v:=?_) rfl (.inl ⟨by rfl, ?_⟩) hHeld ?_
      rotate_left
      ·(intro w hSw; (try dsimp only at hSw); go_simp; try (with_reducible rfl))
      (try simp only [Act.put, zZ])
      refine tZ (i:=11) (v:=?_) rfl (.inl ⟨by rfl, ?_⟩) hHeld ?_
      rotate_left
      ·(intro w hSw; (try dsimp only at hSw); go_simp; try (with_reducible rfl))
      (try simp only [Act.put, zZ])
      refine tZ (i:=12) (v:=?_) rfl (.inl ⟨by rfl, ?_⟩) hHeld ?_
      rotate_left
      ·(intro w hSw; (try dsimp only at hSw); go_simp; try (with_reducible rfl))
      (try simp only [Act.put, zZ])
      refine tZ (i:=13) (v:=?_) rfl (.inl ⟨by rfl, ?_⟩) hHeld ?_
      rotate_left
      ·(intro w hSw; (try dsimp only at hSw); go_simp; try (with_reducible rfl))
      (try simp only [Act.put, zZ])
      refine tZ (i:=14) (v:=?_) rfl (.inl ⟨by rfl, ?_⟩) hHeld ?_
      rotate_left
      ·(intro w hSw; (try dsimp only at hSw); go_simp; try (with_reducible rfl))
      (try simp only [Act.put, zZ])
      refine tZ (i:=15) (v:=?_) rfl (.inl ⟨by rfl, ?_⟩) hHeld ?_
      rotate_left
      ·(intro w hSw; (try dsimp only at hSw); go_simp; try (with_reducible rfl))
      (try simp only [Act.put, zZ])
      refine tZ (i:=16) (v:=?_) rfl (.inl ⟨by rfl, ?_⟩) hHeld ?_
      rotate_left
      ·(intro w hSw; (try dsimp only at hSw); go_simp; try (with_reducible rfl))
      (try simp only [Act.put, zZ])
      refine tZ (i:=17) (v:=?_) rfl (.inl ⟨by rfl, ?_⟩) hHeld ?_
      rotate_left
      ·(intro w hSw; (try dsimp only at hSw); go_simp; try (with_reducible rfl))
      (try simp only [Act.put, zZ])
      refine tZ (i:=18) (v:=?_) rfl (.inl ⟨by rfl, ?_⟩) hHeld ?_
      rotate_left
      ·(intro w hSw; (try dsimp only at hSw); go_simp; try (with_reducible rfl))
      (try simp only [Act.put, zZ])
      refine tZ (i:=19) (v:=?_) rfl (.inl ⟨by rfl, ?_⟩) hHeld ?_
      rotate_left
      ·(intro w hSw; (try dsimp only at hSw); go_simp; try (with_reducible rfl))
      (try simp only [Act.put, zZ])
      refine tZ (i:=20) (v:=?_) rfl (.inl ⟨by rfl, ?_⟩) hHeld ?_
      rotate_left
      ·(intro w hSw; (try dsimp only at hSw); go_simp; try (with_reducible rfl))
      (try simp only [Act.put, zZ])
      refine tZ (i:=21) (v:=?_) rfl (.inl ⟨by rfl, ?_⟩) hHeld ?_
      rotate_left
      ·(intro w hSw; (try dsimp only at hSw); go_simp; try (with_reducible rfl))
      (try simp only [Act.put, zZ])
      refine tZ (i:=22) (v:=?_) rfl (.inl ⟨by rfl, ?_⟩) hHeld ?_
      rotate_left
      ·(intro w hSw; (try dsimp only at hSw); go_simp; try (with_reducible rfl))
      (try simp only [Act.put, zZ])
      refine tZ (i:=23) (v:=?_) rfl (.inl ⟨by rfl, ?_⟩) hHeld ?_
      rotate_left
      ·(intro w hSw; (try dsimp only at hSw); go_simp; try (with_reducible rfl))
      (try simp only [Act.put, zZ])
      refine wpAnyH_done (by kernel_rfl) ?_ _
      have hB' := hB.trans (hHeld.1.mono hB.size)
      go_wp2_with fail
      exact ⟨⟨k + 1, by omega, by go_num, hB', HQ⟩, by simp [intOf]; omega⟩
     ·have HQ : Hid (M1.vecOk ds = false) := M1.vecOk_no (j := k) (by have := hl1.out; omega) (by simp [M1.vokAt]; intro _; exact ⟨hk0, by omega⟩)
      clear hc g1 hall hd hk0
      go_wp2_with fail
      refine wp_region_held_drew (S := fun w' => Kp wr w') (by kernel_rfl) ?_ (fun hHeld => ?_)
      ·exact kp_zero _
      refine tZ (i:=0) (v:=?_) rfl (.inl ⟨by rfl, ?_⟩) hHeld ?_
      rotate_left
      ·(intro w hSw; (try dsimp only at hSw); go_simp; try (with_reducible rfl))
      (try simp only [Act.put, zZ])
      refine tZ (i:=1) (v:=?_) rfl (.inl ⟨by rfl, ?_⟩) hHeld ?_
      rotate_left
      ·(intro w hSw; (try dsimp only at hSw); go_simp; try (with_reducible rfl))
      (try simp only [Act.put, zZ])
      refine tZ (i:=2) (v:=?_) rfl (.inl ⟨by rfl, ?_⟩) hHeld ?_
      rotate_left
      ·(intro w hSw; (try dsimp only at hSw); go_simp; try (with_reducible rfl))
      (try simp only [Act.put, zZ])
      refine tZ (i:=3) (v:=?_) rfl (.inl ⟨by rfl, ?_⟩) hHeld ?_
      rotate_left
      ·(intro w hSw; (try dsimp only at hSw); go_simp; try (with_reducible rfl))
      (try simp only [Act.put, zZ])
      refine wpAnyH_ready (rs := [4]) (by kernel_rfl) (by simp) ?_
      refine AllReadyH.cons (o := _) rfl (fun K hK => ?_) AllReadyH.nil
      go_simp
      (refine (l1Dot_any _ _ _).mono ?_; rw [hd']; rintro e w' ⟨rfl, hb⟩; go_wp2_with fail)
      refine hK.out _ _ ?_ (fun hHeld2 => ?_)
      ·exact kp_step hHeld hb
      clear hK K hHeld
      have hHeld := hHeld2
      clear hHeld2
      (try simp only [Act.put, zZ])
      refine tZ (i:=5) (v:=?_) rfl (.inl ⟨by rfl, ?_⟩) hHeld ?_
      rotate_left
      ·(intro w hSw; (try dsimp only at hSw); go_simp; try (with_reducible rfl))
      (try simp only [Act.put, zZ])
      refine tZ (i:=6) (v:=?_) rfl (.inl ⟨by rfl, ?_⟩) hHeld ?_
      rotate_left
      ·(intro w hSw; (try dsimp only at hSw); go_simp; try (with_reducible rfl))
      (try simp only [Act.put, zZ])
      refine tZ (i:=7) (v:=?_) rfl (.inl ⟨by rfl, ?_⟩) hHeld ?_
      rotate_left
      ·(intro w hSw; (try dsimp only at hSw); go_simp; try (with_reducible rfl))
      (try simp only [Act.put, zZ])
      refine tZ (i:=8) (v:=?_) rfl (.inl ⟨by rfl, ?_⟩) hHeld ?_
      rotate_left
      ·(intro w hSw; (try dsimp only at hSw); go_simp; try (with_reducible rfl))
      (try simp only [Act.put, zZ])
      refine tZ (i:=9) (v:=?_) rfl (.inl ⟨by rfl, ?_⟩) hHeld ?_
      rotate_left
      ·(intro w hSw; (try dsimp only at hSw); go_simp; try (with_reducible rfl))
      (try simp only [Act.put, zZ])
      refine tZ (i:=10) (v:=?_) rfl (.inl ⟨by rfl, ?_⟩) hHeld ?_
      rotate_left
      ·(intro w hSw; (try dsimp only at hSw); go_simp; try (with_reducible rfl))
      (try simp only [Act.put, zZ])
      refine tZ (i:=11) (v:=?_) rfl (.inl ⟨by rfl, ?_⟩) hHeld ?_
      rotate_left
      ·(intro w hSw; (try dsimp only at hSw); go_simp; try (with_reducible rfl))
      (try simp only [Act.put, zZ])
      refine tZ (i:=12) (v:=?_) rfl (.inl ⟨by rfl, ?_⟩) hHeld ?_
      rotate_left
      ·(intro w hSw; (try dsimp only at hSw); go_simp; try (with_reducible rfl))
      (try simp only [Act.put, zZ])
      refine tZ (i:=13) (v:=?_) rfl (.inl ⟨by rfl, ?_⟩) hHeld ?_
      rotate_left
      ·(intro w hSw; (try dsimp only at hSw); go_simp; try (with_reducible rfl))
      (try simp only [Act.put, zZ])
      refine tZ (i:=14) (v:=?_) rfl (.inl ⟨by rfl, ?_⟩) hHeld ?_
      rotate_left
      ·(intro w hSw; (try dsimp only at hSw); go_simp; try (with_reducible rfl))
      (try simp only [Act.put, zZ])
      refine tZ (i:=15) (v:=?_) rfl (.inl ⟨by rfl, ?_⟩) hHeld ?_
      rotate_left
      ·(intro w hSw; (try dsimp only at hSw); go_simp; try (with_reducible rfl))
      (try simp only [Act.put, zZ])
      refine tZ (i:=16) (v:=?_) rfl (.inl ⟨by rfl, ?_⟩) hHeld ?_
      rotate_left
      ·(intro w hSw; (try dsimp only at hSw); go_simp; try (with_reducible rfl))
      (try simp only [Act.put, zZ])
      refine tZ (i:=17) (v:=?_) rfl (.inl ⟨by rfl, ?_⟩) hHeld ?_
      rotate_left
      ·(intro w hSw; (try dsimp only at hSw); go_simp; try (with_reducible rfl))
      (try simp only [Act.put, zZ])
      refine tZ (i:=18) (v:=?_) rfl (.inl ⟨by rfl, ?_⟩) hHeld ?_
      rotate_left
      ·(intro w hSw; (try dsimp only at hSw); go_simp; try (with_reducible rfl))
      (try simp only [Act.put, zZ])
      refine tZ (i:=19) (v:=?_) rfl (.inl ⟨by rfl, ?_⟩) hHeld ?_
      rotate_left
      ·(intro w hSw; (try dsimp only at hSw); go_simp; try (with_reducible rfl))
      (try simp only [Act.put, zZ])
      refine tZ (i:=20) (v:=?_) rfl (.inl ⟨by rfl, ?_⟩) hHeld ?_
      rotate_left
      ·(intro w hSw; (try dsimp only at hSw); go_simp; try (with_reducible rfl))
      (try simp only [Act.put, zZ])
      refine tZ (i:=21) (v:=?_) rfl (.inl ⟨by rfl, ?_⟩) hHeld ?_
      rotate_left
      ·(intro w hSw; (try dsimp only at hSw); go_simp; try (with_reducible rfl))
      (try simp only [Act.put, zZ])
      refine tZ (i:=22) (v:=?_) rfl (.inl ⟨by rfl, ?_⟩) hHeld ?_
      rotate_left
      ·(intro w hSw; (try dsimp only at hSw); go_simp; try (with_reducible rfl))
      (try simp only [Act.put, zZ])
      refine tZ (i:=23) (v:=?_) rfl (.inl ⟨by rfl, ?_⟩) hHeld ?_
      rotate_left
      ·(intro w hSw; (try dsimp only at hSw); go_simp; try (with_reducible rfl))
      (try simp only [Act.put, zZ])
      refine wpAnyH_done (by kernel_rfl) ?_ _
      have hB' := hB.trans (hHeld.1.mono hB.size)
      go_wp2_with fail
      go_ret
      exact ⟨by rw [HQ.out]; rfl, hB'⟩
   ·have hd' : M1.dotOk (M1.rg ds k) (M1.nm ds k) = false := by simpa using hd
    have HQ : Hid (M1.vecOk ds = false) := M1.vecOk_no (j := k) (by have := hl1.out; omega) (by simp [M1.vokAt, hd'])
    clear hc g1 hall hd
    go_wp2_with fail
    refine wp_region_held_drew (S := fun w' => Kp wr w') (by kernel_rfl) ?_ (fun hHeld => ?_)
    ·exact kp_zero _
    refine tZ (i:=0) (v:=?_) rfl (.inl ⟨by rfl, ?_⟩) hHeld ?_
    rotate_left
    ·(intro w hSw; (try dsimp only at hSw); go_simp; try (with_reducible rfl))
    (try simp only [Act.put, zZ])
    refine tZ (i:=1) (v:=?_) rfl (.inl ⟨by rfl, ?_⟩) hHeld ?_
    rotate_left
    ·(intro w hSw; (try dsimp only at hSw); go_simp; try (with_reducible rfl))
    (try simp only [Act.put, zZ])
    refine tZ (i:=2) (v:=?_) rfl (.inl ⟨by rfl, ?_⟩) hHeld ?_
    rotate_left
    ·(intro w hSw; (try dsimp only at hSw); go_simp; try (with_reducible rfl))
    (try simp only [Act.put, zZ])
    refine tZ (i:=3) (v:=?_) rfl (.inl ⟨by rfl, ?_⟩) hHeld ?_
    rotate_left
    ·(intro w hSw; (try dsimp only at hSw); go_simp; try (with_reducible rfl))
    (try simp only [Act.put, zZ])
    refine wpAnyH_ready (rs := [4]) (by kernel_rfl) (by simp) ?_
    refine AllReadyH.cons (o := _) rfl (fun K hK => ?_) AllReadyH.nil
    go_simp
    (refine (l1Dot_any _ _ _).mono ?_; rw [hd']; rintro e w' ⟨rfl, hb⟩; go_wp2_with fail)
    refine hK.out _ _ ?_ (fun hHeld2 => ?_)
    ·exact kp_step hHeld hb
    clear hK K hHeld
    have hHeld := hHeld2
    clear hHeld2
    (try simp only [Act.put, zZ])
    refine tZ (i:=5) (v:=?_) rfl (.inl ⟨by rfl, ?_⟩) hHeld ?_
    rotate_left
    ·(intro w hSw; (try dsimp only at hSw); go_simp; try (with_reducible rfl))
    (try simp only [Act.put, zZ])
    refine tZ (i:=6) (v:=?_) rfl (.inl ⟨by rfl, ?_⟩) hHeld ?_
    rotate_left
    ·(intro w hSw; (try dsimp only at hSw); go_simp; try (with_reducible rfl))
    (try simp only [Act.put, zZ])
    refine tZ (i:=7) (v:=undef) rfl (.inr ⟨by rfl, rfl⟩) hHeld ?_
    (try simp only [Act.put, zZ])
    refine tZ (i:=8) (v:=undef) rfl (.inr ⟨by rfl, rfl⟩) hHeld ?_
    (try simp only [Act.put, zZ])
    refine tZ (i:=9) (v:=undef) rfl (.inr ⟨by rfl, rfl⟩) hHeld ?_
    (try simp only [Act.put, zZ])
    refine tZ (i:=10) (v:=undef) rfl (.inr ⟨by rfl, rfl⟩) hHeld ?_
    (try simp only [Act.put, zZ])
    refine tZ (i:=11) (v:=undef) rfl (.inr ⟨by rfl, rfl⟩) hHeld ?_
    (try simp only [Act.put, zZ])
    refine tZ (i:=12) (v:=undef) rfl (.inr ⟨by rfl, rfl⟩) hHeld ?_
    (try simp only [Act.put, zZ])
    refine tZ (i:=13) (v:=undef) rfl (.inr ⟨by rfl, rfl⟩) hHeld ?_
    (try simp only [Act.put, zZ])
    refine tZ (i:=14) (v:=undef) rfl (.inr ⟨by rfl, rfl⟩) hHeld ?_
    (try simp only [Act.put, zZ])
    refine tZ (i:=15) (v:=undef) rfl (.inr ⟨by rfl, rfl⟩) hHeld ?_
    (try simp only [Act.put, zZ])
    refine tZ (i:=16) (v:=undef) rfl (.inr ⟨by rfl, rfl⟩) hHeld ?_
    (try simp only [Act.put, zZ])
    refine tZ (i:=17) (v:=undef) rfl (.inr ⟨by rfl, rfl⟩) hHeld ?_
    (try simp only [Act.put, zZ])
    refine tZ (i:=18) (v:=undef) rfl (.inr ⟨by rfl, rfl⟩) hHeld ?_
    (try simp only [Act.put, zZ])
    refine tZ (i:=19) (v:=undef) rfl (.inr ⟨by rfl, rfl⟩) hHeld ?_
    (try simp only [Act.put, zZ])
    refine tZ (i:=20) (v:=undef) rfl (.inr ⟨by rfl, rfl⟩) hHeld ?_
    (try simp only [Act.put, zZ])
    refine tZ (i:=21) (v:=undef) rfl (.inr ⟨by rfl, rfl⟩) hHeld ?_
    (try simp only [Act.put, zZ])
    refine tZ (i:=22) (v:=undef) rfl (.inr ⟨by rfl, rfl⟩) hHeld ?_
    (try simp only [Act.put, zZ])
    refine tZ (i:=23) (v:=?_) rfl (.inl ⟨by rfl, ?_⟩) hHeld ?_
    rotate_left
    ·(intro w hSw; (try dsimp only at hSw); go_simp; try (with_reducible rfl))
    (try simp only [Act.put, zZ])
    refine wpAnyH_done (by kernel_rfl) ?_ _
    have hB' := hB.trans (hHeld.1.mono hB.size)
    go_wp2_with fail
    go_ret
    exact ⟨by rw [HQ.out]; rfl, hB'⟩
  ·have HQ : Hid (M1.vecOk ds = true) := M1.vecOk_yes (fun j hj => hall.out j (by have := hl1.out; omega))
   clear hall
   go_wp2_with fail
   go_ret
   exact ⟨by rw [HQ.out]; rfl, hB⟩

end Go.Proofs.YtgcinolbkllkkaaGreat
