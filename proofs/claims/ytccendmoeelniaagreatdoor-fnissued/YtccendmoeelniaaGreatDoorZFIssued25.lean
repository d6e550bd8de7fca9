/-
  Texts of one proof, joined: Is2, Draw1.
-/
import Derived.Test.YtccendmoeelniaaGreatDoorZFIssued16
import Derived.Test.YtccendmoeelniaaGreatDoorZFIssued24
import Derived.Test.YtccendmoeelniaaGreatDoorZFIssued14
import Derived.Test.YtccendmoeelniaaGreatDoorRows
import Derived.Test.YtccendmoeelniaaGreatDoorZFIssued03
import Derived.WalkKit
import Derived.ProofKit
import Derived.OpenShut
import Derived.Deep.RegionHeld3
import Derived.Deep.DrawnRows
namespace M1
theorem lets_3 {us : List Upd} {o : OpV} (h : setOk us = true) (hk : o.k = 3) : letsB us o = visB us o.t := by
 unfold letsB visB lvT; rw [if_pos hk, h, Bool.true_and]

theorem lets_4 {us : List Upd} {o : OpV} (h : setOk us = true) (hk : o.k = 4) : letsB us o = !visB us o.t := by
 unfold letsB visB lvT; rw [if_neg (by omega), if_pos hk, h, Bool.true_and]

theorem lets_0 {us : List Upd} {o : OpV} (hk : ¬ o.k = 3) (hk2 : ¬ o.k = 4) : letsB us o = true := by
 unfold letsB; rw [if_neg hk, if_neg hk2]

end M1
namespace Go.Proofs.YtccendmoeelniaaGreatDoor
open Go.ChangeShapes Go.WideShapes Go.ChangeAt Go.RowKit
set_option linter.unusedSimpArgs false
set_option linter.unusedVariables false
abbrev OpAt (w : World) (p : Nat) (x : M1.OpV) : Prop := RowAt w p 7 (fun o => [.int .i64 x.k, .int .i64 x.t, .int .i64 x.id, .int .i64 x.pa, .string x.s, .int .i64 x.st, .int .i64 x.en].getD o undef)

theorem op_new (w : World) (x : M1.OpV) (t : TypeId) : OpAt (w.alloc (.cells #[.int .i64 x.k, .int .i64 x.t, .int .i64 x.id, .int .i64 x.pa, .string x.s, .int .i64 x.st, .int .i64 x.en] t)) w.heap.size x :=
 (RowAt.new w #[.int .i64 x.k, .int .i64 x.t, .int .i64 x.id, .int .i64 x.pa, .string x.s, .int .i64 x.st, .int .i64 x.en] t).same fun o ho => by
  match o, ho with
  | 0, _ => rfl
  | 1, _ => rfl
  | 2, _ => rfl
  | 3, _ => rfl
  | 4, _ => rfl
  | 5, _ => rfl
  | 6, _ => rfl

theorem OpAt.cells {w : World} {p : Nat} {x : M1.OpV} (h : OpAt w p x) : w.cell? ⟨p, 0, none⟩ = some (.int .i64 x.k) ∧ w.cell? ⟨p, 1, none⟩ = some (.int .i64 x.t) ∧ w.cell? ⟨p, 2, none⟩ = some (.int .i64 x.id) ∧ w.cell? ⟨p, 3, none⟩ = some (.int .i64 x.pa) ∧ w.cell? ⟨p, 4, none⟩ = some (.string x.s) ∧ w.cell? ⟨p, 5, none⟩ = some (.int .i64 x.st) ∧ w.cell? ⟨p, 6, none⟩ = some (.int .i64 x.en) := ⟨h.cell (o := 0) (by omega), h.cell (o := 1) (by omega), h.cell (o := 2) (by omega), h.cell (o := 3) (by omega), h.cell (o := 4) (by omega), h.cell (o := 5) (by omega), h.cell (o := 6) (by omega)⟩

set_option maxHeartbeats 4000000 in
set_option maxRecDepth 100000 in
theorem lets_any (p : Nat) (r : M1.Rg) (x : M1.OpV) (av : Option Addr) (n cn : Nat) (w : World) (hP : RgAt w p r.id r.a r.b r.c av n cn) (hU : IsUpds w av n cn r.us) (hset : Hid (M1.setOk r.us = true)) :
  Calls Tryz.prog 86 #[.pointer (some ⟨p, 0, none⟩), .agg #[.int .i64 x.k, .int .i64 x.t, .int .i64 x.id, .int .i64 x.pa, .string x.s, .int .i64 x.st, .int .i64 x.en]] w fun e w' => e = .returned (.bool (M1.letsB r.us x)) ∧ Below w.heap.size w w' := by
 have hA : Below w.heap.size w (w.alloc (.cells #[.int .i64 x.k, .int .i64 x.t, .int .i64 x.id, .int .i64 x.pa, .string x.s, .int .i64 x.st, .int .i64 x.en] 32)) := (Below.refl _ _).alloc (Nat.le_refl _) _
 have oA := op_new w x 32
 go_enter Tryz.func86, Tryz.ntmps86
 go_upto_region 1 with fail
 obtain ⟨W1, hW1⟩ : ∃ W, w.alloc (.cells #[.int .i64 x.k, .int .i64 x.t, .int .i64 x.id, .int .i64 x.pa, .string x.s, .int .i64 x.st, .int .i64 x.en] 32) = W := ⟨_, rfl⟩
 rw [hW1] at hA oA ⊢
 clear hW1
 obtain ⟨b, hb⟩ : ∃ b, Hid (w.heap.size = b) := ⟨_, rfl⟩
 rw [hb.out] at oA ⊢
 have P1 : RgAt W1 p r.id r.a r.b r.c av n cn := hP.below hA
 have U1 := hU.below hA
 obtain ⟨d0, d1, d2, d3, d4⟩ := P1.cells
 have pl := P1.lt
 obtain ⟨c0, c1, c2, c3, c4, c5, c6⟩ := oA.cells
 have ol := oA.lt
 by_cases k3 : x.k = 3
 ·have HL : Hid (M1.letsB r.us x = M1.visB r.us x.t) := M1.lets_3 hset.out k3
  rw [k3] at c0
  clear k3
  go_wp2_with fail
  refine wp_region_held_drew (S := fun w' => Kp W1 w') (by kernel_rfl) ?_ (fun hHeld => ?_)
  ·exact kp_zero _
  refine tZ (i:=0) (v:=?_) rfl (.inl ⟨by rfl, ?_⟩) hHeld ?_
  rotate_left
  ·(intro w hSw; (try dsimp only at hSw); go_simp; try (with_reducible rfl))
  (try simp only [Act.put, zZ])
  refine tZ (i:=1) (v:=?_) rfl (.inl ⟨by rfl, ?_⟩) hHeld ?_
  rotate_left
  ·(intro w hSw; (try dsimp only at hSw); go_simp; try (with_reducible rfl))
  (try simp only [Act.put, zZ])
  refine tZ (i:=2) (v:=?_) rfl (.inl ⟨by rfl, ?_⟩) hHeld ?_
  rotate_left
  ·(intro w hSw; (try dsimp only at hSw); go_simp; try (with_reducible rfl))
  (try simp only [Act.put, zZ])
  refine tZ (i:=3) (v:=?_) rfl (.inl ⟨by rfl, ?_⟩) hHeld ?_
  rotate_left
  ·(intro w hSw; (try dsimp only at hSw); go_simp; try (with_reducible rfl))
  (try simp only [Act.put, zZ])
  refine tZ (i:=4) (v:=?_) rfl (.inl ⟨by rfl, ?_⟩) hHeld ?_
  rotate_left
  ·(intro w hSw; (try dsimp only at hSw); go_simp; try (with_reducible rfl))
  (try simp only [Act.put, zZ])
  refine tZ (i:=5) (v:=?_) rfl (.inl ⟨by rfl, ?_⟩) hHeld ?_
  rotate_left
  ·(intro w hSw; (try dsimp only at hSw); go_simp; try (with_reducible rfl))
  (try simp only [Act.put, zZ])
  refine wpAnyH_ready (rs := [6]) (by kernel_rfl) (by simp) ?_
  refine AllReadyH.cons (o := _) rfl (fun K hK => ?_) AllReadyH.nil
  go_simp
  (refine (visible_impl _ _ _ r.us x.t _ (hU.below hA.drew)).mono ?_; rintro e w2 ⟨rfl, hb2⟩; go_wp2_with fail)
  refine hK.out _ _ ?_ (fun hHeld2 => ?_)
  ·exact kp_of ((Below.refl _ W1).drew.trans hb2)
  clear hK K hHeld
  have hHeld := hHeld2
  clear hHeld2
  (try simp only [Act.put, zZ])
  refine tZ (i:=7) (v:=?_) rfl (.inl ⟨by rfl, ?_⟩) hHeld ?_
  rotate_left
  ·(intro w hSw; (try dsimp only at hSw); go_simp; try (with_reducible rfl))
  (try simp only [Act.put, zZ])
  refine wpAnyH_done (by kernel_rfl) ?_ _
  clear hHeld
  go_wp2_with fail
  go_ret
  exact ⟨by rw [HL.out]; rfl, hA.trans (((Below.refl _ W1).drew.trans hb2).mono hA.size)⟩
 ·have q3 : (x.k == 3) = false := by simpa using k3
  by_cases k4 : x.k = 4
  ·clear k3 q3
   have HL : Hid (M1.letsB r.us x = !M1.visB r.us x.t) := M1.lets_4 hset.out k4
   rw [k4] at c0
   clear k4
   go_wp2_with fail
   refine wp_region_held_drew (S := fun w' => Kp W1 w') (by kernel_rfl) ?_ (fun hHeld => ?_)
   ·exact kp_zero _
   refine tZ (i:=0) (v:=?_) rfl (.inl ⟨by rfl, ?_⟩) hHeld ?_
   rotate_left
   ·(intro w hSw; (try dsimp only at hSw); go_simp; try (with_reducible rfl))
   (try simp only [Act.put, zZ])
   refine tZ (i:=1) (v:=?_) rfl (.inl ⟨by rfl, ?_⟩) hHeld ?_
   rotate_left
   ·(intro w hSw; (try dsimp only at hSw); go_simp; try (with_reducible rfl))
   (try simp only [Act.put, zZ])
   refine tZ (i:=2) (v:=?_) rfl (.inl ⟨by rfl, ?_⟩) hHeld ?_
   rotate_left
   ·(intro w hSw; (try dsimp only at hSw); go_simp; try (with_reducible rfl))
   (try simp only [Act.put, zZ])
   refine tZ (i:=3) (v:=?_) rfl (.inl ⟨by rfl, ?_⟩) hHeld ?_
   rotate_left
   ·(intro w hSw; (try dsimp only at hSw); go_simp; try (with_reducible rfl))
   (try simp only [Act.put, zZ])
   refine tZ (i:=4) (v:=?_) rfl (.inl ⟨by rfl, ?_⟩) hHeld ?_
   rotate_left
   ·(intro w hSw; (try dsimp only at hSw); go_simp; try (with_reducible rfl))
   (try simp only [Act.put, zZ])
   refine tZ (i:=5) (v:=?_) rfl (.inl ⟨by rfl, ?_⟩) hHeld ?_
   rotate_left
   ·(intro w hSw; (try dsimp only at hSw); go_simp; try (with_reducible rfl))
   (try simp only [Act.put, zZ])
   refine wpAnyH_ready (rs := [6]) (by kernel_rfl) (by simp) ?_
   refine AllReadyH.cons (o := _) rfl (fun K hK => ?_) AllReadyH.nil
   go_simp
   (refine (visible_impl _ _ _ r.us x.t _ (hU.below hA.drew)).mono ?_; rintro e w2 ⟨rfl, hb2⟩; go_wp2_with fail)
   refine hK.out _ _ ?_ (fun hHeld2 => ?_)
   ·exact kp_of ((Below.refl _ W1).drew.trans hb2)
   clear hK K hHeld
   have hHeld := hHeld2
   clear hHeld2
   (try simp only [Act.put, zZ])
   refine tZ (i:=7) (v:=?_) rfl (.inl ⟨by rfl, ?_⟩) hHeld ?_
   rotate_left
   ·(intro w hSw; (try dsimp only at hSw); go_simp; try (with_reducible rfl))
   (try simp only [Act.put, zZ])
   refine tZ (i:=8) (v:=?_) rfl (.inl ⟨by rfl, ?_⟩) hHeld ?_
   rotate_left
   ·(intro w hSw; (try dsimp only at hSw); go_simp; try (with_reducible rfl))
   (try simp only [Act.put, zZ])
   refine wpAnyH_done (by kernel_rfl) ?_ _
   clear hHeld
   go_wp2_with fail
   go_ret
   exact ⟨by rw [HL.out]; rfl, hA.trans (((Below.refl _ W1).drew.trans hb2).mono hA.size)⟩
  ·have q4 : (x.k == 4) = false := by simpa using k4
   have HL : Hid (M1.letsB r.us x = true) := M1.lets_0 k3 k4
   go_wp2_with fail
   go_ret
   exact ⟨by rw [HL.out]; rfl, hA⟩

end Go.Proofs.YtccendmoeelniaaGreatDoor

namespace Go.Proofs.YtccendmoeelniaaGreatDoor
open Go.ChangeShapes Go.WideShapes Go.ChangeAt Go.RowKit
set_option maxHeartbeats 1000000 in
theorem next_any (g : Nat) (av : Option Addr) (len cap : Nat) (w : World) (h : Rdr w g av len cap) :
  Calls Tryz.prog 82 #[.pointer (some ⟨g, 0, none⟩)] w fun e w' => ∃ x : Int, e = .returned (.int .i64 x) ∧ 0 ≤ x ∧ x ≤ 255 ∧ Rdr w' g av len cap ∧ Gr g w w' := by
 have hg := h.lt
 have c0 := h.c0
 have f1 := h.f1
 have hc := h.hc
 have hm := h.hm
 unfold maxLen at hm
 obtain ⟨p, hp, c1⟩ := h.c1
 by_cases hlt : p < len
 ·rcases h.lies with h0 | ⟨b, off, rfl, hb, hn, hz⟩
  ·omega
  obtain ⟨z, cz, z0, z1⟩ := hz p hlt
  have i0 : (0 : Int) ≤ (p : Int) := by omega
  have i1 : (p : Int) < (len : Int) := by omega
  have hn2 : ¬ g = b := fun e => hn e.symm
  go_enter Tryz.func82, Tryz.ntmps82
  go_wp2_with fail
  go_region_held3 (fun w' => Kp w w') (first | exact kp_zero _ | exact kp_drew (by assumption) | exact kp_step (by assumption) (by assumption)) (fail)
  go_wp2_with fail
  have hR := (h.set (p := p + 1) (by omega)).below (Below.refl _ _).drew
  have hG := gr_drew (gr_set (gr_refl g w) 1 (.int .i64 ((p + 1 : Nat))))
  have d0 : (w.setCell ⟨g, 1, none⟩ (.int .i64 ((p + 1 : Nat)))).drew.cell? ⟨g, 0, none⟩ = some (.slice (some ⟨b, off, none⟩) len cap) := hR.c0
  have d1 : (w.setCell ⟨g, 1, none⟩ (.int .i64 ((p + 1 : Nat)))).drew.cell? ⟨g, 1, none⟩ = some (.int .i64 ((p + 1 : Nat))) := World.cell?_setCell_same w _ _ c1
  have d2 : (w.setCell ⟨g, 1, none⟩ (.int .i64 ((p + 1 : Nat)))).drew.cell? ⟨b, off + p, none⟩ = some (.int .u8 z) := (gr_cell hG hb hn _).trans cz
  have hg2 := hR.lt
  have hb2 : b < (w.setCell ⟨g, 1, none⟩ (.int .i64 ((p + 1 : Nat)))).drew.heap.size := Nat.lt_of_lt_of_le hb hG.size
  have ep : ((p + 1 : Nat) : Int) = (p : Int) + 1 := by omega
  rw [ep] at hR hG d0 d1 d2 hg2 hb2
  clear ep c0 c1 cz
  generalize (w.setCell ⟨g, 1, none⟩ (.int .i64 ((p : Int) + 1))).drew = W1 at *
  have i2 : IntKind.i64.wrap (p : Int) = (p : Int) := IntWalk.i64_in _ (by omega)
  have i3 : IntKind.i64.wrap z = z := IntWalk.i64_in _ (by omega)
  go_region_held3 (fun w' => Kp W1 w') (first | exact kp_zero _ | exact kp_drew (by assumption) | exact kp_step (by assumption) (by assumption)) (fail)
  go_wp2_with fail
  go_ret
  exact ⟨z, rfl, z0, z1, hR.below (Below.refl _ _).drew, gr_drew hG⟩
 ·go_enter Tryz.func82, Tryz.ntmps82
  go_wp2_with fail
  go_region_held3 (fun w' => Kp w w') (first | exact kp_zero _ | exact kp_drew (by assumption) | exact kp_step (by assumption) (by assumption)) (fail)
  go_wp2_with fail
  go_ret
  exact ⟨0, rfl, by omega, by omega, h.below (Below.refl _ _).drew, gr_drew (gr_refl _ _)⟩

set_option maxHeartbeats 1000000 in
theorem below_any (g : Nat) (av : Option Addr) (len cap : Nat) (n : Int) (w : World) (h : Rdr w g av len cap) (h1 : 1 ≤ n) (h2 : n ≤ 1000000000) :
  Calls Tryz.prog 44 #[.pointer (some ⟨g, 0, none⟩), .int .i64 n] w fun e w' => ∃ x : Int, e = .returned (.int .i64 x) ∧ 0 ≤ x ∧ x < n ∧ Rdr w' g av len cap ∧ Gr g w w' := by
 by_cases a1 : n ≤ 1
 ·go_enter Tryz.func44, Tryz.ntmps44
  go_wp2_with fail
  go_ret
  exact ⟨0, rfl, by omega, by omega, h, gr_refl _ _⟩
 ·by_cases a2 : n ≤ 256
  ·go_enter Tryz.func44, Tryz.ntmps44
   go_wp2_with fail
   refine (next_any _ _ _ _ _ h).mono ?_
   rintro e w1 ⟨x, rfl, x0, x1, hR, hG⟩
   go_wp2_with fail
   go_ret
   exact ⟨x % n, rfl, Int.emod_nonneg _ (by omega), Int.emod_lt_of_pos _ (by omega), hR, hG⟩
  ·go_enter Tryz.func44, Tryz.ntmps44
   go_wp2_with fail
   refine (next_any _ _ _ _ _ h).mono ?_
   rintro e w1 ⟨x, rfl, x0, x1, hR, hG⟩
   go_wp2_with fail
   refine (next_any _ _ _ _ _ hR).mono ?_
   rintro e w2 ⟨y, rfl, y0, y1, hR2, hG2⟩
   go_wp2_with fail
   go_ret
   exact ⟨(x * 256 + y) % n, rfl, Int.emod_nonneg _ (by omega), Int.emod_lt_of_pos _ (by omega), hR2, gr_trans hG hG2⟩

theorem once_any (g : Nat) (av : Option Addr) (len cap : Nat) (n : Int) (w : World) (h : Rdr w g av len cap) (h1 : 1 ≤ n) (h2 : n ≤ 1000000000) :
  Calls Tryz.prog 42 #[.pointer (some ⟨g, 0, none⟩), .int .i64 n] w fun e w' => ∃ x : Bool, e = .returned (.bool x) ∧ Rdr w' g av len cap ∧ Gr g w w' := by
 go_enter Tryz.func42, Tryz.ntmps42
 go_wp2_with fail
 refine (below_any _ _ _ _ _ _ h h1 h2).mono ?_
 rintro e w1 ⟨x, rfl, x0, x1, hR, hG⟩
 go_wp2_with fail
 go_ret
 exact ⟨_, rfl, hR, hG⟩

set_option maxHeartbeats 1000000 in
theorem word_any (g : Nat) (av : Option Addr) (len cap : Nat) (w : World) (h : Rdr w g av len cap) :
  Calls Tryz.prog 112 #[.pointer (some ⟨g, 0, none⟩)] w fun e w' => ∃ x : Int, e = .returned (.int .u64 x) ∧ 0 ≤ x ∧ x ≤ 18446744073709551615 ∧ Rdr w' g av len cap ∧ Gr g w w' := by
 go_enter Tryz.func112, Tryz.ntmps112
 go_wp2_with fail
 go_loopw [3, 4] (fun x i wr => ∃ (k : Nat) (y : Int), k ≤ 8 ∧ i = .int .i64 k ∧ x = .int .u64 y ∧ 0 ≤ y ∧ y ≤ 18446744073709551615 ∧ Rdr wr g av len cap ∧ Gr g w wr) (fun _ i _ => 8 - (intOf i).toNat)
 case atStart => exact ⟨0, 0, by omega, rfl, rfl, by omega, by omega, h, gr_refl _ _⟩
 case round =>
  obtain ⟨k, y, hk, rfl, rfl, y0, y1, hR, hG⟩ := hrel
  by_cases hlt : k < 8
  ·go_wp2_with fail
   refine (next_any _ _ _ _ _ hR).mono ?_
   rintro e w1 ⟨z, rfl, z0, z1, hR2, hG2⟩
   go_wp2_with fail
   have hw := bounds_u64 (wf_bits .or .u64 (IntKind.u64.wrap (y * 256)) z)
   exact ⟨⟨k + 1, _, by omega, by go_num, rfl, hw.1, hw.2, hR2, gr_trans hG hG2⟩, by simp [intOf]; omega⟩
  ·go_wp2_with fail
   go_ret
   exact ⟨y, rfl, y0, y1, hR, hG⟩

set_option maxHeartbeats 1000000 in
theorem near_any (g : Nat) (av : Option Addr) (len cap : Nat) (lo hi : Int) (w : World) (h : Rdr w g av len cap) (h1 : -1000000000 ≤ lo) (h2 : lo ≤ hi) (h3 : hi ≤ 1000000000) :
  Calls Tryz.prog 81 #[.pointer (some ⟨g, 0, none⟩), .int .i64 lo, .int .i64 hi] w fun e w' => ∃ x : Int, e = .returned (.int .i64 x) ∧ lo ≤ x ∧ x ≤ hi ∧ Rdr w' g av len cap ∧ Gr g w w' := by
 go_enter Tryz.func81, Tryz.ntmps81
 go_wp2_with fail
 refine (below_any _ _ _ _ _ _ h (by omega) (by omega)).mono ?_
 rintro e w1 ⟨x, rfl, x0, x1, hR, hG⟩
 by_cases a0 : x = 0
 ·have b0 : (x == 0) = true := by simp [a0]
  clear a0
  go_wp2_with fail
  go_ret
  exact ⟨lo, rfl, by omega, by omega, hR, hG⟩
 ·have b0 : (x == 0) = false := by simp [a0]
  by_cases a1 : x = 1
  ·have b1 : (x == 1) = true := by simp [a1]
   clear a0 a1
   go_wp2_with fail
   go_ret
   exact ⟨hi, rfl, by omega, by omega, hR, hG⟩
  ·have b1 : (x == 1) = false := by simp [a1]
   clear a0 a1
   go_wp2_with fail
   refine (word_any _ _ _ _ _ hR).mono ?_
   rintro e w2 ⟨y, rfl, y0, y1, hR2, hG2⟩
   go_wp2_with fail
   have m0 : 0 ≤ y / 2 % (hi - lo + 1) := Int.emod_nonneg _ (by omega)
   have m1 : y / 2 % (hi - lo + 1) < hi - lo + 1 := Int.emod_lt_of_pos _ (by omega)
   generalize y / 2 % (hi - lo + 1) = m at *
   have e1 : wrap64 m = m := by rw [← IntWalk.i64_left]; exact IntWalk.i64_in _ (by omega)
   have e2 : wrap64 (lo + m) = lo + m := by rw [← IntWalk.i64_left]; exact IntWalk.i64_in _ (by omega)
   rw [e1, e2]
   go_ret
   exact ⟨lo + m, rfl, by omega, by omega, hR2, gr_trans hG hG2⟩

set_option maxHeartbeats 1000000 in
theorem off_any (g : Nat) (av : Option Addr) (len cap : Nat) (lo hi : Int) (w : World) (h : Rdr w g av len cap) (h1 : -1000000000 ≤ lo) (h2 : lo ≤ hi) (h3 : hi ≤ 1000000000) :
  Calls Tryz.prog 43 #[.pointer (some ⟨g, 0, none⟩), .int .i64 lo, .int .i64 hi] w fun e w' => ∃ x : Int, e = .returned (.int .i64 x) ∧ -9223372036854775808 ≤ x ∧ x ≤ 9223372036854775807 ∧ Rdr w' g av len cap ∧ Gr g w w' := by
 go_enter Tryz.func43, Tryz.ntmps43
 go_wp2_with fail
 refine (once_any _ _ _ _ _ _ h (by omega) (by omega)).mono ?_
 rintro e w1 ⟨x, rfl, hR, hG⟩
 cases x with
 | false =>
  go_wp2_with fail
  refine (near_any _ _ _ _ _ _ _ hR h1 h2 h3).mono ?_
  rintro e w2 ⟨y, rfl, y0, y1, hR2, hG2⟩
  go_wp2_with fail
  go_ret
  exact ⟨y, rfl, by omega, by omega, hR2, gr_trans hG hG2⟩
 | true =>
  go_wp2_with fail
  refine (below_any _ _ _ _ _ _ (hR.below ((Below.refl _ _).alloc (Nat.le_refl _) _)) (by omega) (by omega)).mono ?_
  rintro e w2 ⟨y, rfl, y0, y1, hR2, hG2⟩
  have hG3 := gr_trans (gr_alloc (gr_refl g w1) _) hG2
  have hlt := hR.lt
  obtain ⟨rc, rf, rz, rn⟩ := gr_rules hG2
  have hne : ¬ w1.heap.size = g := by omega
  obtain rfl | rfl | rfl | rfl : y = 0 ∨ y = 1 ∨ y = 2 ∨ y = 3 := by omega
  all_goals
   go_wp2_with fail
   go_ret
   exact ⟨_, rfl, by omega, by omega, hR2, gr_trans hG hG3⟩

end Go.Proofs.YtccendmoeelniaaGreatDoor
