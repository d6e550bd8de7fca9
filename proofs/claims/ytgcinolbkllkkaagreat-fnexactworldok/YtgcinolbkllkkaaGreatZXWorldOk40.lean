/-
  Texts of one proof, joined: AgreeS.
-/
import Derived.Test.YtgcinolbkllkkaaGreatZXWorldOk10
import Derived.Test.YtgcinolbkllkkaaGreatZXWorldOk23
import Derived.BigQuiet
namespace M1
def deq (a b c d : Int) : Bool := decide (a = c ∧ b = d)

end M1
namespace Go.Proofs.YtgcinolbkllkkaaGreat
open Go.ChangeShapes Go.WideShapes Go.ChangeAt Go.RowKit
set_option linter.unusedSimpArgs false
set_option linter.unusedVariables false
theorem eqDotW (a b c d : Int) (w : World) : (Op.equalIn 10000 68 (.agg #[.int .i64 a, .int .i64 b]) (.agg #[.int .i64 c, .int .i64 d])).run Tryz.prog w = .ok (M1.deq a b c d) w := eqDotV a b c d w

attribute [local go_sem high] eqU eqDotW
set_option maxHeartbeats 8000000 in
set_option maxRecDepth 100000 in
theorem l3Agree_any (av : Option Addr) (n cn : Nat) (us : List M1.Upd) (bv : Option Addr) (m cm : Nat) (vs : List M1.Upd) (w : World) (h1 : IsUpds w av n cn us) (h2 : IsUpds w bv m cm vs) (hn : n ≤ 1048576) (hm : m ≤ 1048576) :
  Calls Tryz.prog 119 #[.slice av n cn, .slice bv m cm] w fun e w' => e = .returned (.bool (decide (M1.agreeTo us vs vs.length))) ∧ Below w.heap.size w w' := by
 have hm1 := h1.hcap
 have hm2 := h1.hmost
 have hm3 := h2.hcap
 have hm4 := h2.hmost
 have hl1 : Hid (us.length = n) := h1.hlen
 have hl2 : Hid (vs.length = m) := h2.hlen
 obtain ⟨q, hq⟩ : ∃ q, decide (M1.agreeTo us vs vs.length) = q := ⟨_, rfl⟩
 have HQ : Hid (decide (M1.agreeTo us vs vs.length) = q) := hq
 rw [hq]
 clear hq
 unfold maxLen at hm2 hm4
 go_enter Tryz.func119, Tryz.ntmps119
 go_wp2_with fail
 go_loopw [5] (fun i wr => ∃ (k : Nat), k ≤ n ∧ i = .int .i64 k ∧ Below w.heap.size w wr ∧ Hid (∀ i, i < k → ∀ j, j < m → (M1.up us i).dr = (M1.up vs j).dr ∧ (M1.up us i).dn = (M1.up vs j).dn → M1.ueq (M1.up us i) (M1.up vs j) = true)) (fun i _ => n - (intOf i).toNat)
 case atStart => exact ⟨0, Nat.zero_le _, rfl, Below.refl _ _, fun i hi => absurd hi (Nat.not_lt_zero _)⟩
 case round =>
  obtain ⟨k, hk, rfl, hB, hall⟩ := hrel
  by_cases hlt : k < n
  ·have i0 : (0 : Int) ≤ (k : Int) := by omega
   have i1 : (k : Int) < (n : Int) := by omega
   have i5 : IntKind.i64.wrap ((k : Int) + 1) = (k : Int) + 1 := IntWalk.i64_in _ (by omega)
   go_wp2_with fail
   go_loopw [6] (fun i wr => ∃ (p : Nat), p ≤ m ∧ i = .int .i64 p ∧ Below w.heap.size w wr ∧ Hid (∀ j, j < p → (M1.up us k).dr = (M1.up vs j).dr ∧ (M1.up us k).dn = (M1.up vs j).dn → M1.ueq (M1.up us k) (M1.up vs j) = true)) (fun i _ => m - (intOf i).toNat)
   case atStart => exact ⟨0, Nat.zero_le _, rfl, hB, fun i hi => absurd hi (Nat.not_lt_zero _)⟩
   case round =>
    clear hB
    obtain ⟨p, hp, rfl, hB, hin⟩ := hrel
    by_cases hlp : p < m
    ·have g1 := h1.below hB
     rcases g1.hlies with h0 | ⟨b, off, rfl, hb, hc⟩
     ·omega
     obtain ⟨c0, c1, c2, c3, c4, c5, c6, c7, c8, c9, c10, c11, c12⟩ := hc k hlt
     have g2 := h2.below hB
     rcases g2.hlies with h0 | ⟨b', off', rfl, hb', hc'⟩
     ·omega
     obtain ⟨p0, p1, p2, p3, p4, p5, p6, p7, p8, p9, p10, p11, p12⟩ := hc' p hlp
     have j0 : (0 : Int) ≤ (p : Int) := by omega
     have j1 : (p : Int) < (m : Int) := by omega
     have j5 : IntKind.i64.wrap ((p : Int) + 1) = (p : Int) + 1 := IntWalk.i64_in _ (by omega)
     clear hc hc' g1 g2
     by_cases hd : M1.deq (M1.up us k).dr (M1.up us k).dn (M1.up vs p).dr (M1.up vs p).dn = true
     ·by_cases he : M1.ueq (M1.up us k) (M1.up vs p) = true
      ·have HN : Hid (∀ j, j < p + 1 → (M1.up us k).dr = (M1.up vs j).dr ∧ (M1.up us k).dn = (M1.up vs j).dn → M1.ueq (M1.up us k) (M1.up vs j) = true) := fun j hj hh => by
        by_cases ej : j = p
        ·rw [ej]; exact he
        ·exact hin.out j (by omega) hh
       go_wp2_with fail
       refine wp_region_held_drew (S := fun w' => Kp wr w') (by kernel_rfl) ?_ (fun hHeld => ?_)
       ·exact kp_zero _
       refine tZ (i:=0) (v:=?_) rfl (.inl ⟨by rfl, ?_⟩) hHeld ?_
       rotate_left
       ·(intro w hSw; (try dsimp only at hSw); go_simp; try (with_reducible rfl))
       (try simp only [Act.put, zZ])
       refine tZ (i:=1) (v:=?_) rfl (.inl ⟨by rfl, ?_⟩) hHeld ?_
       rotate_left
       ·(intro w hSw; (try dsimp only at hSw); go_simp; try (with_reducible rfl))
       (try simp only [Act.put, zZ])
       refine tZ (i:=2) (v:=?_) rfl (.inl ⟨by rfl, ?_⟩) hHeld ?_
       rotate_left
       ·(intro w hSw; (try dsimp only at hSw); go_simp; try (with_reducible rfl))
       (try simp only [Act.put, zZ])
       refine tZ (i:=3) (v:=?_) rfl (.inl ⟨by rfl, ?_⟩) hHeld ?_
       rotate_left
       ·(intro w hSw; (try dsimp only at hSw); go_simp; try (with_reducible rfl))
       (try simp only [Act.put, zZ])
       refine tZ (i:=4) (v:=?_) rfl (.inl ⟨by rfl, ?_⟩) hHeld ?_
       rotate_left
       ·(intro w hSw; (try dsimp only at hSw); go_simp; try (with_reducible rfl))
       (try simp only [Act.put, zZ])
       refine tZ (i:=5) (v:=?_) rfl (.inl ⟨by rfl, ?_⟩) hHeld ?_
       rotate_left
       ·(intro w hSw; (try dsimp only at hSw); go_simp; try (with_reducible rfl))
       (try simp only [Act.put, zZ])
       refine tZ (i:=6) (v:=?_) rfl (.inl ⟨by rfl, ?_⟩) hHeld ?_
       rotate_left
       ·(intro w hSw; (try dsimp only at hSw); go_simp; try (with_reducible rfl))
       (try simp only [Act.put, zZ])
       refine tZ (i:=7) (v:=?_) rfl (.inl ⟨by rfl, ?_⟩) hHeld ?_
       rotate_left
       ·(intro w hSw; (try dsimp only at hSw); go_simp; try (with_reducible rfl))
       (try simp only [Act.put, zZ])
       refine tZ (i:=8) (v:=?_) rfl (.inl ⟨by rfl, ?_⟩) hHeld ?_
       rotate_left
       ·(intro w hSw; (try dsimp only at hSw); go_simp; try (with_reducible rfl))
       (try simp only [Act.put, zZ])
       refine tZ (i:=9) (v:=?_) rfl (.inl ⟨by rfl, ?_⟩) hHeld ?_
       rotate_left
       ·(intro w hSw; (try dsimp only at hSw); go_simp; try (with_reducible rfl))
       (try simp only [Act.put, zZ])
       refine tZ (i:=10) (v:=?_) rfl (.inl ⟨by rfl, ?_⟩) hHeld ?_
       rotate_left
       ·(intro w hSw; (try dsimp only at hSw); go_simp; try (with_reducible rfl))
       (try simp only [Act.put, zZ])
       refine tZ (i:=11) (v:=?_) rfl (.inl ⟨by rfl, ?_⟩) hHeld ?_
       rotate_left
       ·(intro w hSw; (try dsimp only at hSw); go_simp; try (with_reducible rfl))
       (try simp only [Act.put, zZ])
       refine tZ (i:=12) (v:=?_) rfl (.inl ⟨by rfl, ?_⟩) hHeld ?_
       rotate_left
       ·(intro w hSw; (try dsimp only at hSw); go_simp; try (with_reducible rfl))
       (try simp only [Act.put, zZ])
       refine tZ (i:=13) (v:=?_) rfl (.inl ⟨by rfl, ?_⟩) hHeld ?_
       rotate_left
       ·(intro w hSw; (try dsimp only at hSw); go_simp; try (with_reducible rfl))
       (try simp only [Act.put, zZ])
       refine tZ (i:=14) (v:=?_) rfl (.inl ⟨by rfl, ?_⟩) hHeld ?_
       rotate_left
       ·(intro w hSw; (try dsimp only at hSw); go_simp; try (with_reducible rfl))
       (try simp only [Act.put, zZ])
       refine tZ (i:=15) (v:=?_) rfl (.inl ⟨by rfl, ?_⟩) hHeld ?_
       rotate_left
       ·(intro w hSw; (try dsimp only at hSw); go_simp; try (with_reducible rfl))
       (try simp only [Act.put, zZ])
       refine tZ (i:=16) (v:=?_) rfl (.inl ⟨by rfl, ?_⟩) hHeld ?_
       rotate_left
       ·(intro w hSw; (try dsimp only at hSw); go_simp; try (with_reducible rfl))
       (try simp only [Act.put, zZ])
       refine tZ (i:=17) (v:=?_) rfl (.inl ⟨by rfl, ?_⟩) hHeld ?_
       rotate_left
       ·(intro w hSw; (try dsimp only at hSw); go_simp; try (with_reducible rfl))
       (try simp only [Act.put, zZ])
       refine tZ (i:=18) (v:=?_) rfl (.inl ⟨by rfl, ?_⟩) hHeld ?_
       rotate_left
       ·(intro w hSw; (try dsimp only at hSw); go_simp; try (with_reducible rfl))
       (try simp only [Act.put, zZ])
       refine tZ (i:=19) (v:=?_) rfl (.inl ⟨by rfl, ?_⟩) hHeld ?_
       rotate_left
       ·(intro w hSw; (try dsimp only at hSw); go_simp; try (with_reducible rfl))
       (try simp only [Act.put, zZ])
       refine tZ (i:=20) (v:=?_) rfl (.inl ⟨by rfl, ?_⟩) hHeld ?_
       rotate_left
       ·(intro w hSw; (try dsimp only at hSw); go_simp; try (with_reducible rfl))
       (try simp only [Act.put, zZ])
       refine tZ (i:=21) (v:=?_) rfl (.inl ⟨by rfl, ?_⟩) hHeld ?_
       rotate_left
       ·(intro w hSw; (try dsimp only at hSw); go_simp; try (with_reducible rfl))
       (try simp only [Act.put, zZ])
       refine wpAnyH_done (by kernel_rfl) ?_ _
       have hK1 := hHeld
       clear hHeld
       have hB1 := hB.trans (hK1.1.mono hB.size)
       clear hK1
       go_wp2_with fail
       exact ⟨⟨p + 1, by omega, by go_num, hB1, HN⟩, by simp [intOf]; omega⟩
      ·replace he : M1.ueq (M1.up us k) (M1.up vs p) = false := by simpa using he
       have HN : Hid (q = false) := (by
        rw [← HQ.out]
        refine decide_eq_false (fun h => ?_)
        have h9 := h p (by have := hl2.out; omega) k (by have := hl1.out; omega) (of_decide_eq_true hd)
        rw [he] at h9
        exact absurd h9 (by decide) : q = false)
       go_wp2_with fail
       refine wp_region_held_drew (S := fun w' => Kp wr w') (by kernel_rfl) ?_ (fun hHeld => ?_)
       ·exact kp_zero _
       refine tZ (i:=0) (v:=?_) rfl (.inl ⟨by rfl, ?_⟩) hHeld ?_
       rotate_left
       ·(intro w hSw; (try dsimp only at hSw); go_simp; try (with_reducible rfl))
       (try simp only [Act.put, zZ])
       refine tZ (i:=1) (v:=?_) rfl (.inl ⟨by rfl, ?_⟩) hHeld ?_
       rotate_left
       ·(intro w hSw; (try dsimp only at hSw); go_simp; try (with_reducible rfl))
       (try simp only [Act.put, zZ])
       refine tZ (i:=2) (v:=?_) rfl (.inl ⟨by rfl, ?_⟩) hHeld ?_
       rotate_left
       ·(intro w hSw; (try dsimp only at hSw); go_simp; try (with_reducible rfl))
       (try simp only [Act.put, zZ])
       refine tZ (i:=3) (v:=?_) rfl (.inl ⟨by rfl, ?_⟩) hHeld ?_
       rotate_left
       ·(intro w hSw; (try dsimp only at hSw); go_simp; try (with_reducible rfl))
       (try simp only [Act.put, zZ])
       refine tZ (i:=4) (v:=?_) rfl (.inl ⟨by rfl, ?_⟩) hHeld ?_
       rotate_left
       ·(intro w hSw; (try dsimp only at hSw); go_simp; try (with_reducible rfl))
       (try simp only [Act.put, zZ])
       refine tZ (i:=5) (v:=?_) rfl (.inl ⟨by rfl, ?_⟩) hHeld ?_
       rotate_left
       ·(intro w hSw; (try dsimp only at hSw); go_simp; try (with_reducible rfl))
       (try simp only [Act.put, zZ])
       refine tZ (i:=6) (v:=?_) rfl (.inl ⟨by rfl, ?_⟩) hHeld ?_
       rotate_left
       ·(intro w hSw; (try dsimp only at hSw); go_simp; try (with_reducible rfl))
       (try simp only [Act.put, zZ])
       refine tZ (i:=7) (v:=?_) rfl (.inl ⟨by rfl, ?_⟩) hHeld ?_
       rotate_left
       ·(intro w hSw; (try dsimp only at hSw); go_simp; try (with_reducible rfl))
       (try simp only [Act.put, zZ])
       refine tZ (i:=8) (v:=?_) rfl (.inl ⟨by rfl, ?_⟩) hHeld ?_
       rotate_left
       ·(intro w hSw; (try dsimp only at hSw); go_simp; try (with_reducible rfl))
       (try simp only [Act.put, zZ])
       refine tZ (i:=9) (v:=?_) rfl (.inl ⟨by rfl, ?_⟩) hHeld ?_
       rotate_left
       ·(intro w hSw; (try dsimp only at hSw); go_simp; try (with_reducible rfl))
       (try simp only [Act.put, zZ])
       refine tZ (i:=10) (v:=?_) rfl (.inl ⟨by rfl, ?_⟩) hHeld ?_
       rotate_left
       ·(intro w hSw; (try dsimp only at hSw); go_simp; try (with_reducible rfl))
       (try simp only [Act.put, zZ])
       refine tZ (i:=11) (v:=?_) rfl (.inl ⟨by rfl, ?_⟩) hHeld ?_
       rotate_left
       ·(intro w hSw; (try dsimp only at hSw); go_simp; try (with_reducible rfl))
       (try simp only [Act.put, zZ])
       refine tZ (i:=12) (v:=?_) rfl (.inl ⟨by rfl, ?_⟩) hHeld ?_
       rotate_left
       ·(intro w hSw; (try dsimp only at hSw); go_simp; try (with_reducible rfl))
       (try simp only [Act.put, zZ])
       refine tZ (i:=13) (v:=?_) rfl (.inl ⟨by rfl, ?_⟩) hHeld ?_
       rotate_left
       ·(intro w hSw; (try dsimp only at hSw); go_simp; try (with_reducible rfl))
       (try simp only [Act.put, zZ])
       refine tZ (i:=14) (v:=?_) rfl (.inl ⟨by rfl, ?_⟩) hHeld ?_
       rotate_left
       ·(intro w hSw; (try dsimp only at hSw); go_simp; try (with_reducible rfl))
       (try simp only [Act.put, zZ])
       refine tZ (i:=15) (v:=?_) rfl (.inl ⟨by rfl, ?_⟩) hHeld ?_
       rotate_left
       ·(intro w hSw; (try dsimp only at hSw); go_simp; try (with_reducible rfl))
       (try simp only [Act.put, zZ])
       refine tZ (i:=16) (v:=?_) rfl (.inl ⟨by rfl, ?_⟩) hHeld ?_
       rotate_left
       ·(intro w hSw; (try dsimp only at hSw); go_simp; try (with_reducible rfl))
       (try simp only [Act.put, zZ])
       refine tZ (i:=17) (v:=?_) rfl (.inl ⟨by rfl, ?_⟩) hHeld ?_
       rotate_left
       ·(intro w hSw; (try dsimp only at hSw); go_simp; try (with_reducible rfl))
       (try simp only [Act.put, zZ])
       refine tZ (i:=18) (v:=?_) rfl (.inl ⟨by rfl, ?_⟩) hHeld ?_
       rotate_left
       ·(intro w hSw; (try dsimp only at hSw); go_simp; try (with_reducible rfl))
       (try simp only [Act.put, zZ])
       refine tZ (i:=19) (v:=?_) rfl (.inl ⟨by rfl, ?_⟩) hHeld ?_
       rotate_left
       ·(intro w hSw; (try dsimp only at hSw); go_simp; try (with_reducible rfl))
       (try simp only [Act.put, zZ])
       refine tZ (i:=20) (v:=?_) rfl (.inl ⟨by rfl, ?_⟩) hHeld ?_
       rotate_left
       ·(intro w hSw; (try dsimp only at hSw); go_simp; try (with_reducible rfl))
       (try simp only [Act.put, zZ])
       refine tZ (i:=21) (v:=?_) rfl (.inl ⟨by rfl, ?_⟩) hHeld ?_
       rotate_left
       ·(intro w hSw; (try dsimp only at hSw); go_simp; try (with_reducible rfl))
       (try simp only [Act.put, zZ])
       refine wpAnyH_done (by kernel_rfl) ?_ _
       have hK1 := hHeld
       clear hHeld
       have hB1 := hB.trans (hK1.1.mono hB.size)
       clear hK1
       go_wp2_with fail
       refine bodyPost_ret (v := .bool false) (by simp [results, Tryz.results119, go_sem]) rfl ⟨by rw [HN.out], hB1⟩
     ·replace hd : M1.deq (M1.up us k).dr (M1.up us k).dn (M1.up vs p).dr (M1.up vs p).dn = false := by simpa using hd
      have HN : Hid (∀ j, j < p + 1 → (M1.up us k).dr = (M1.up vs j).dr ∧ (M1.up us k).dn = (M1.up vs j).dn → M1.ueq (M1.up us k) (M1.up vs j) = true) := fun j hj hh => by
       by_cases ej : j = p
       ·rw [ej] at hh; exact absurd hh (of_decide_eq_false hd)
       ·exact hin.out j (by omega) hh
      go_wp2_with fail
      refine wp_region_held_drew (S := fun w' => Kp wr w') (by kernel_rfl) ?_ (fun hHeld => ?_)
      ·exact kp_zero _
      refine tZ (i:=0) (v:=?_) rfl (.inl ⟨by rfl, ?_⟩) hHeld ?_
      rotate_left
      ·(intro w hSw; (try dsimp only at hSw); go_simp; try (with_reducible rfl))
      (try simp only [Act.put, zZ])
      refine tZ (i:=1) (v:=?_) rfl (.inl ⟨by rfl, ?_⟩) hHeld ?_
      rotate_left
      ·(intro w hSw; (try dsimp only at hSw); go_simp; try (with_reducible rfl))
      (try simp only [Act.put, zZ])
      refine tZ (i:=2) (v:=?_) rfl (.inl ⟨by rfl, ?_⟩) hHeld ?_
      rotate_left
      ·(intro w hSw; (try dsimp only at hSw); go_simp; try (with_reducible rfl))
      (try simp only [Act.put, zZ])
      refine tZ (i:=3) (v:=?_) rfl (.inl ⟨by rfl, ?_⟩) hHeld ?_
      rotate_left
      ·(intro w hSw; (try dsimp only at hSw); go_simp; try (with_reducible rfl))
      (try simp only [Act.put, zZ])
      refine tZ (i:=4) (v:=?_) rfl (.inl ⟨by rfl, ?_⟩) hHeld ?_
      rotate_left
      ·(intro w hSw; (try dsimp only at hSw); go_simp; try (with_reducible rfl))
      (try simp only [Act.put, zZ])
      refine tZ (i:=5) (v:=?_) rfl (.inl ⟨by rfl, ?_⟩) hHeld ?_
      rotate_left
      ·(intro w hSw; (try dsimp only at hSw); go_simp; try (with_reducible rfl))
      (try simp only [Act.put, zZ])
      refine tZ (i:=6) (v:=?_) rfl (.inl ⟨by rfl, ?_⟩) hHeld ?_
      rotate_left
      ·(intro w hSw; (try dsimp only at hSw); go_simp; try (with_reducible rfl))
      (try simp only [Act.put, zZ])
      refine tZ (i:=7) (v:=?_) rfl (.inl ⟨by rfl, ?_⟩) hHeld ?_
      rotate_left
      ·(intro w hSw; (try dsimp only at hSw); go_simp; try (with_reducible rfl))
      (try simp only [Act.put, zZ])
      refine tZ (i:=8) (v:=?_) rfl (.inl ⟨by rfl, ?_⟩) hHeld ?_
      rotate_left
      ·(intro w hSw; (try dsimp only at hSw); go_simp; try (with_reducible rfl))
      (try simp only [Act.put, zZ])
      refine tZ (i:=9) (v:=?_) rfl (.inl ⟨by rfl, ?_⟩) hHeld ?_
      rotate_left
      ·(intro w hSw; (try dsimp only at hSw); go_simp; try (with_reducible rfl))
      (try simp only [Act.put, zZ])
      refine tZ (i:=10) (v:=?_) rfl (.inl ⟨by rfl, ?_⟩) hHeld ?_
      rotate_left
      ·(intro w hSw; (try dsimp only at hSw); go_simp; try (with_reducible rfl))
      (try simp only [Act.put, zZ])
      refine tZ (i:=11) (v:=?_) rfl (.inl ⟨by rfl, ?_⟩) hHeld ?_
      rotate_left
      ·(intro w hSw; (try dsimp only at hSw); go_simp; try (with_reducible rfl))
      (try simp only [Act.put, zZ])
      refine tZ (i:=12) (v:=undef) rfl (.inr ⟨by rfl, rfl⟩) hHeld ?_
      (try simp only [Act.put, zZ])
      refine tZ (i:=13) (v:=undef) rfl (.inr ⟨by rfl, rfl⟩) hHeld ?_
      (try simp only [Act.put, zZ])
      refine tZ (i:=14) (v:=undef) rfl (.inr ⟨by rfl, rfl⟩) hHeld ?_
      (try simp only [Act.put, zZ])
      refine tZ (i:=15) (v:=undef) rfl (.inr ⟨by rfl, rfl⟩) hHeld ?_
      (try simp only [Act.put, zZ])
      refine tZ (i:=16) (v:=undef) rfl (.inr ⟨by rfl, rfl⟩) hHeld ?_
      (try simp only [Act.put, zZ])
      refine tZ (i:=17) (v:=undef) rfl (.inr ⟨by rfl, rfl⟩) hHeld ?_
      (try simp only [Act.put, zZ])
      refine tZ (i:=18) (v:=undef) rfl (.inr ⟨by rfl, rfl⟩) hHeld ?_
      (try simp only [Act.put, zZ])
      refine tZ (i:=19) (v:=undef) rfl (.inr ⟨by rfl, rfl⟩) hHeld ?_
      (try simp only [Act.put, zZ])
      refine tZ (i:=20) (v:=undef) rfl (.inr ⟨by rfl, rfl⟩) hHeld ?_
      (try simp only [Act.put, zZ])
      refine tZ (i:=21) (v:=?_) rfl (.inl ⟨by rfl, ?_⟩) hHeld ?_
      rotate_left
      ·(intro w hSw; (try dsimp only at hSw); go_simp; try (with_reducible rfl))
      (try simp only [Act.put, zZ])
      refine wpAnyH_done (by kernel_rfl) ?_ _
      have hK1 := hHeld
      clear hHeld
      have hB1 := hB.trans (hK1.1.mono hB.size)
      clear hK1
      go_wp2_with fail
      exact ⟨⟨p + 1, by omega, by go_num, hB1, HN⟩, by simp [intOf]; omega⟩
    ·have HN : Hid (∀ i, i < k + 1 → ∀ j, j < m → (M1.up us i).dr = (M1.up vs j).dr ∧ (M1.up us i).dn = (M1.up vs j).dn → M1.ueq (M1.up us i) (M1.up vs j) = true) := fun i hi j hj hh => by
      by_cases ei : i = k
      ·rw [ei] at hh ⊢; exact hin.out j (by omega) hh
      ·exact hall.out i (by omega) j hj hh
     go_wp2_with fail
     exact ⟨⟨k + 1, by omega, by go_num, hB, HN⟩, by simp [intOf]; omega⟩
  ·have HN : Hid (q = true) := (by
    rw [← HQ.out]
    exact decide_eq_true (fun j hj i hi hh => hall.out i (by have := hl1.out; omega) j (by have := hl2.out; omega) hh) : q = true)
   go_wp2_with fail
   refine bodyPost_ret (v := .bool true) (by simp [results, Tryz.results119, go_sem]) rfl ⟨by rw [HN.out], hB⟩

theorem agree_spec (av : Option Addr) (n cn : Nat) (us : List M1.Upd) (bv : Option Addr) (m cm : Nat) (vs : List M1.Upd) (w : World) (h1 : IsUpds w av n cn us) (h2 : IsUpds w bv m cm vs) :
  Calls Tryz.prog 94 #[.slice av n cn, .slice bv m cm] w fun e w' => e = .returned (.bool (M1.agreeB us vs)) ∧ Below w.heap.size w w' := by
 by_cases hs1 : M1.setOk us = true
 ·by_cases hs2 : M1.setOk vs = true
  ·have HB : M1.agreeB us vs = decide (M1.agreeTo us vs vs.length) := by unfold M1.agreeB; rw [hs1, hs2]; rfl
   obtain ⟨q, hq⟩ : ∃ q, decide (M1.agreeTo us vs vs.length) = q := ⟨_, rfl⟩
   have HQ : Hid (decide (M1.agreeTo us vs vs.length) = q) := hq
   have hn1 : n ≤ 1048576 := by have := M1.setOk_len hs1; have := h1.hlen; omega
   have hn2 : m ≤ 1048576 := by have := M1.setOk_len hs2; have := h2.hlen; omega
   rw [HB, hq]
   clear HB hq
   go_enter Tryz.func94, Tryz.ntmps94
   go_wp2_with fail
   refine (setOk_spec _ _ _ _ _ h1).mono ?_
   rw [hs1]
   rintro e w1 ⟨rfl, hb1⟩
   go_wp2_with fail
   refine (setOk_spec _ _ _ _ _ (h2.below hb1)).mono ?_
   rw [hs2]
   rintro e w2 ⟨rfl, hb2⟩
   have hB2 := hb1.trans (hb2.mono hb1.size)
   go_wp2_with fail
   refine (l3Agree_any _ _ _ _ _ _ _ _ _ (h1.below hB2) (h2.below hB2) hn1 hn2).mono ?_
   rw [HQ.out]
   rintro e w3 ⟨rfl, hb3⟩
   have hB3 := hB2.trans (hb3.mono hB2.size)
   go_wp2_with fail
   go_ret
   exact ⟨rfl, hB3⟩
  ·replace hs2 : M1.setOk vs = false := by simpa using hs2
   have HB : M1.agreeB us vs = false := by unfold M1.agreeB; rw [hs1, hs2]; rfl
   rw [HB]
   go_enter Tryz.func94, Tryz.ntmps94
   go_wp2_with fail
   refine (setOk_spec _ _ _ _ _ h1).mono ?_
   rw [hs1]
   rintro e w1 ⟨rfl, hb1⟩
   go_wp2_with fail
   refine (setOk_spec _ _ _ _ _ (h2.below hb1)).mono ?_
   rw [hs2]
   rintro e w2 ⟨rfl, hb2⟩
   have hB2 := hb1.trans (hb2.mono hb1.size)
   go_wp2_with fail
   go_ret
   exact ⟨rfl, hB2⟩
 ·replace hs1 : M1.setOk us = false := by simpa using hs1
  have HB : M1.agreeB us vs = false := by unfold M1.agreeB; rw [hs1]; rfl
  rw [HB]
  go_enter Tryz.func94, Tryz.ntmps94
  go_wp2_with fail
  refine (setOk_spec _ _ _ _ _ h1).mono ?_
  rw [hs1]
  rintro e w1 ⟨rfl, hb1⟩
  go_wp2_with fail
  go_ret
  exact ⟨rfl, hb1⟩

end Go.Proofs.YtgcinolbkllkkaaGreat
