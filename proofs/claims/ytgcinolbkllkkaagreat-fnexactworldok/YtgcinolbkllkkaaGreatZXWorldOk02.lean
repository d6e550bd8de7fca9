/-
  Texts of one proof, joined: Vec1.
-/
import Derived.Test.YtgcinolbkllkkaaGreatZXWorldOk01
import Derived.Test.YtgcinolbkllkkaaGreatZXWorldOk00
import Derived.Deep.RegionHeld3
import Derived.Deep.DrawnRows
import Derived.Deep.DeepCutAuto
import Derived.Deep.LoopGhost
namespace Go.Proofs.YtgcinolbkllkkaaGreat
open Go.ChangeShapes Go.WideShapes Go.ChangeAt Go.RowKit
structure IsVec (w : World) (av : Option Addr) (len cap : Nat) (ds : List (Int × Int)) : Prop where
 hlen : ds.length = len
 hcap : len ≤ cap
 hmost : cap ≤ maxLen
 hlies : len = 0 ∨ ∃ b off, av = some ⟨b, off, none⟩ ∧ b < w.heap.size ∧ ∀ i, i < len → w.cell? ⟨b, off + i * 2, none⟩ = some (.int .i64 (M1.rg ds i)) ∧ w.cell? ⟨b, off + i * 2 + 1, none⟩ = some (.int .i64 (M1.nm ds i))

theorem IsVec.below {w w' : World} {av : Option Addr} {len cap : Nat} {ds : List (Int × Int)} (h : IsVec w av len cap ds) (hb : Below w.heap.size w w') : IsVec w' av len cap ds :=
 ⟨h.hlen, h.hcap, h.hmost, h.hlies.imp id fun ⟨b, off, e, hlt, hc⟩ => ⟨b, off, e, Nat.lt_of_lt_of_le hlt hb.size, fun i hi => ⟨(hb.cell (p := ⟨b, off + i * 2, none⟩) hlt).trans (hc i hi).1, (hb.cell (p := ⟨b, off + i * 2 + 1, none⟩) hlt).trans (hc i hi).2⟩⟩⟩

theorem l1Dot_any (a b : Int) (w : World) :
  Calls Tryz.prog 96 #[.agg #[.int .i64 a, .int .i64 b]] w fun e w' => e = .returned (.bool (M1.dotOk a b)) ∧ Below w.heap.size w w' := by
 unfold M1.dotOk
 go_enter Tryz.func96, Tryz.ntmps96
 go_wp2_with ((go_at_call 27; refine (l1In_any _ _ _ _).mono ?_; rintro e w' ⟨rfl, rfl⟩))
 all_goals (go_ret)
 all_goals (exact ⟨by simp [*], (Below.refl _ _).alloc (Nat.le_refl _) _⟩)

theorem dotOk_any (a b : Int) (w : World) :
  Calls Tryz.prog 97 #[.agg #[.int .i64 a, .int .i64 b]] w fun e w' => e = .returned (.bool (M1.dotOk a b)) ∧ Below w.heap.size w w' := by
 unfold M1.dotOk
 go_enter Tryz.func97, Tryz.ntmps97
 go_wp2_with ((go_at_call 23; refine (inRange_any _ _ _ _).mono ?_; rintro e w' ⟨rfl, rfl⟩))
 all_goals (go_ret)
 all_goals (exact ⟨by simp [*], (Below.refl _ _).alloc (Nat.le_refl _) _⟩)

theorem toDot_any (a b : Int) (w : World) :
  Calls Tryz.prog 133 #[.agg #[.int .i64 a, .int .i64 b]] w fun e w' => e = .returned (.agg #[.int .i64 a, .int .i64 b]) ∧ Below w.heap.size w w' := by
 go_enter Tryz.func133, Tryz.ntmps133
 go_wp2
 refine bodyPost_ret (v := .agg #[.int .i64 a, .int .i64 b]) (by simp [results, Tryz.results133, go_sem]) rfl ⟨rfl, ?_⟩
 repeat (first | (with_reducible exact Below.refl _ _) | ((with_reducible refine Below.setCell ?_ ?_ _); rotate_left; (focus (first | omega | (simp; done) | (simp; omega)))) | ((with_reducible refine Below.alloc ?_ ?_ _); rotate_left; (focus (first | omega | (simp; done) | (simp; omega)))) | (with_reducible refine Below.drew ?_))

theorem eqDot_any (a b x y : Int) (w : World) :
  Calls Tryz.prog 135 #[.agg #[.int .i64 a, .int .i64 b], .agg #[.int .i64 x, .int .i64 y]] w fun e w' => e = .returned (.bool (M1.eqd a b x y)) ∧ Below w.heap.size w w' := by
 unfold M1.eqd
 go_enter Tryz.func135, Tryz.ntmps135
 go_wp2
 all_goals (go_ret)
 all_goals (refine ⟨by simp_all, ?_⟩)
 all_goals (repeat (first | (with_reducible exact Below.refl _ _) | ((with_reducible refine Below.setCell ?_ ?_ _); rotate_left; (focus (first | omega | (simp; done) | (simp; omega)))) | ((with_reducible refine Below.alloc ?_ ?_ _); rotate_left; (focus (first | omega | (simp; done) | (simp; omega)))) | (with_reducible refine Below.drew ?_)))

set_option maxHeartbeats 1000000 in
theorem eqDotS_same (av bv : Option Addr) (n cn cm : Nat) (ds es : List (Int × Int)) (w : World) (h1 : IsVec w av n cn ds) (h2 : IsVec w bv n cm es) :
  Calls Tryz.prog 110 #[.slice av n cn, .slice bv n cm] w fun e w' => e = .returned (.bool (decide (ds = es))) ∧ Below w.heap.size w w' := by
 have hl1 : Hid (ds.length = n) := h1.hlen
 have hl2 : Hid (es.length = n) := h2.hlen
 have hm1 := h1.hcap
 have hm2 := h1.hmost
 have hm3 := h2.hcap
 have hm4 := h2.hmost
 unfold maxLen at hm2 hm4
 have hnb : ((n : Int) != (n : Int)) = false := by simp
 go_enter Tryz.func110, Tryz.ntmps110
 go_wp2
 go_loopw [5] (fun i wr => ∃ k : Nat, k ≤ n ∧ i = .int .i64 k ∧ Below w.heap.size w wr ∧ Hid (∀ j, j < k → M1.rg ds j = M1.rg es j ∧ M1.nm ds j = M1.nm es j)) (fun i _ => n - (intOf i).toNat)
 case atStart => exact ⟨0, Nat.zero_le _, rfl, Below.refl _ _, fun j hj => absurd hj (Nat.not_lt_zero _)⟩
 case round =>
  obtain ⟨k, hk, rfl, hB, hall⟩ := hrel
  by_cases hlt : k < n
  ·have g1 := h1.below hB
   have g2 := h2.below hB
   rcases g1.hlies with h0 | ⟨b, off, rfl, hb, hc⟩
   ·omega
   rcases g2.hlies with h0 | ⟨b2, off2, rfl, hb2, hc2⟩
   ·omega
   obtain ⟨c1, c2⟩ := hc k hlt
   obtain ⟨c3, c4⟩ := hc2 k hlt
   clear hc hc2 g1 g2
   have i0 : (0 : Int) ≤ (k : Int) := by omega
   have i1 : (k : Int) < (n : Int) := by omega
   by_cases hq : M1.rg ds k = M1.rg es k ∧ M1.nm ds k = M1.nm es k
   ·have hq1 : M1.eqd (M1.rg ds k) (M1.nm ds k) (M1.rg es k) (M1.nm es k) = true := by simp [M1.eqd, hq]
    have HQ : Hid (∀ j, j < k + 1 → M1.rg ds j = M1.rg es j ∧ M1.nm ds j = M1.nm es j) := fun j hj => by
     by_cases e : j = k
     ·rw [e]; exact hq
     ·exact hall.out j (by omega)
    clear hq hall
    go_wp2_with fail
    go_region_held3 (fun w' => Kp wr w')
     (first | exact kp_zero _ | exact kp_drew (by assumption) | exact kp_step (by assumption) (by assumption))
     (first
      | (go_at_call 135; refine (eqDot_any _ _ _ _ _).mono ?_; rw [hq1]; rintro e w' ⟨rfl, hb⟩))
    rename_i hK
    obtain ⟨hK1, hK2⟩ := hK
    have hB' := hB.trans (hK1.mono hB.size)
    go_wp2_with fail
    exact ⟨⟨k + 1, by omega, by go_num, hB', HQ⟩, by simp [intOf]; omega⟩
   ·have hq1 : M1.eqd (M1.rg ds k) (M1.nm ds k) (M1.rg es k) (M1.nm es k) = false := by simpa [M1.eqd] using hq
    have HQ : Hid (decide (ds = es) = false) := by
     refine decide_eq_false fun e => hq ?_
     rw [e]; exact ⟨rfl, rfl⟩
    clear hq hall
    go_wp2_with fail
    go_region_held3 (fun w' => Kp wr w')
     (first | exact kp_zero _ | exact kp_drew (by assumption) | exact kp_step (by assumption) (by assumption))
     (first
      | (go_at_call 135; refine (eqDot_any _ _ _ _ _).mono ?_; rw [hq1]; rintro e w' ⟨rfl, hb⟩))
    rename_i hK
    obtain ⟨hK1, hK2⟩ := hK
    have hB' := hB.trans (hK1.mono hB.size)
    go_wp2_with fail
    go_ret
    exact ⟨by rw [HQ.out]; rfl, hB'⟩
  ·have HQ : Hid (decide (ds = es) = true) := decide_eq_true (M1.list_ext (hl1.out.trans hl2.out.symm) fun j hj => hall.out j (by have := hl1.out; omega))
   clear hall
   go_wp2_with fail
   go_ret
   exact ⟨by rw [HQ.out]; rfl, hB⟩

end Go.Proofs.YtgcinolbkllkkaaGreat
