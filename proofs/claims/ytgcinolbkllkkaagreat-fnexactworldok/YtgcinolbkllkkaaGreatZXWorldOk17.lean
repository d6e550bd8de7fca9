/-
  Texts of one proof, joined: DotA.
-/
import Derived.Test.YtgcinolbkllkkaaGreatZXWorldOk02
import Derived.Test.YtgcinolbkllkkaaGreatZXWorldOk00
namespace Go.Proofs.YtgcinolbkllkkaaGreat
open Go.ChangeShapes Go.WideShapes Go.ChangeAt Go.RowKit
set_option linter.unusedSimpArgs false
theorem isNaN_any (x : Int) (w : World) : Calls Tryz.prog 102 #[.int .i64 x] w fun e w' => e = .returned (.bool false) ∧ w' = w := by
 go_enter Tryz.func102, Tryz.ntmps102
 go_wp2_with fail
 go_ret
 exact ⟨by simp, rfl⟩

theorem compare_any (x y : Int) (w : World) : Calls Tryz.prog 68 #[.int .i64 x, .int .i64 y] w fun e w' => e = .returned (.int .i64 (M1.cmpI x y)) ∧ w' = w := by
 unfold M1.cmpI
 by_cases h1 : x < y
 ·have h2 : ¬ y < x := by omega
  go_enter Tryz.func68, Tryz.ntmps68
  go_wp2_with ((go_at_call 102; refine (isNaN_any _ _).mono ?_; rintro e w' ⟨rfl, rfl⟩))
  go_ret
  exact ⟨by simp [h1, h2], rfl⟩
 ·by_cases h2 : y < x
  ·go_enter Tryz.func68, Tryz.ntmps68
   go_wp2_with ((go_at_call 102; refine (isNaN_any _ _).mono ?_; rintro e w' ⟨rfl, rfl⟩))
   go_ret
   exact ⟨by simp [h1, h2], rfl⟩
  ·go_enter Tryz.func68, Tryz.ntmps68
   go_wp2_with ((go_at_call 102; refine (isNaN_any _ _).mono ?_; rintro e w' ⟨rfl, rfl⟩))
   go_ret
   exact ⟨by simp [h1, h2], rfl⟩

theorem dahead_spec (a b x y : Int) (w : World) :
  Calls Tryz.prog 93 #[.agg #[.int .i64 a, .int .i64 b], .agg #[.int .i64 x, .int .i64 y]] w fun e w' => e = .returned (.bool (M1.dahead a b x y)) ∧ Below w.heap.size w w' := by
 unfold M1.dahead
 go_enter Tryz.func93, Tryz.ntmps93
 go_wp2
 all_goals (go_ret)
 all_goals (exact ⟨by simp_all, ((Below.refl _ _).alloc (Nat.le_refl _) _).alloc (by simp) _⟩)

set_option maxHeartbeats 1000000 in
theorem cmpOr_two (b : Nat) (x y : Int) (w : World) (c0 : w.cell? ⟨b, 0, none⟩ = some (.int .i64 x)) (c1 : w.cell? ⟨b, 1, none⟩ = some (.int .i64 y)) :
  Calls Tryz.prog 71 #[.slice (some ⟨b, 0, none⟩) 2 2] w fun e w' => e = .returned (.int .i64 (M1.orI x y)) ∧ w' = w := by
 go_enter Tryz.func71, Tryz.ntmps71
 go_wp2_with fail
 go_loopw [8] (fun i wr => ∃ q : Int, i = .int .i64 q ∧ wr = w ∧ (q = 0 ∨ (q = 1 ∧ x = 0) ∨ (q = 2 ∧ x = 0 ∧ y = 0))) (fun i _ => 2 - (intOf i).toNat)
 case atStart => exact ⟨0, rfl, rfl, Or.inl rfl⟩
 case round =>
  obtain ⟨q, rfl, rfl, hq⟩ := hrel
  rcases hq with rfl | ⟨rfl, hx⟩ | ⟨rfl, hx, hy⟩
  ·by_cases hx : x = 0
   ·have hxb : (x != 0) = false := by simp [hx]
    go_wp2_with fail
    exact ⟨⟨1, rfl, by first | trivial | rfl, Or.inr (Or.inl ⟨rfl, hx⟩)⟩, by simp [intOf]⟩
   ·have hxb : (x != 0) = true := by simp [hx]
    have HX : Hid (¬ x = 0) := hx
    clear hx
    go_wp2_with fail
    go_ret
    exact ⟨by rw [M1.orI, if_neg HX.out]; rfl, rfl⟩
  ·by_cases hy : y = 0
   ·have hxb : (y != 0) = false := by simp [hy]
    go_wp2_with fail
    exact ⟨⟨2, rfl, by first | trivial | rfl, Or.inr (Or.inr ⟨rfl, hx, hy⟩)⟩, by simp [intOf]⟩
   ·have hxb : (y != 0) = true := by simp [hy]
    have HX : Hid (x = 0) := hx
    clear hx hy
    go_wp2_with fail
    go_ret
    exact ⟨by rw [M1.orI, if_pos HX.out]; rfl, rfl⟩
  ·have HX : Hid (x = 0 ∧ y = 0) := ⟨hx, hy⟩
   clear hx hy
   go_wp2_with fail
   go_ret
   exact ⟨by rw [M1.orI, if_pos HX.out.1, HX.out.2]; rfl, rfl⟩

end Go.Proofs.YtgcinolbkllkkaaGreat
