/-
  Contracts of chapter 1's functions on stamps, of the program and of the model: each returns what its function of Math1 says, and turns nothing that was there.
-/
import Derived.Test.YtkdmkgpjcbignaaRows
import Derived.Test.YtkdmkgpjcbignaaMath1
import Derived.Test.YtkdmkgpjcbignaaKept
import Derived.WalkKit
import Derived.ProofKit
import Derived.OpenShut
import Derived.Below
namespace Go.Proofs.Ytkdmkgpjcbignaa
open Go.ChangeShapes Go.WideShapes Go.ChangeAt Go.RowKit

theorem l1In_any (n lo hi : Int) (w : World) :
    Calls Try.prog 76 #[.int .i64 n, .int .i64 lo, .int .i64 hi] w fun e w' => e = .returned (.bool (M1.inB n lo hi)) ∧ w' = w := by
  unfold M1.inB
  by_cases h1 : lo ≤ n <;> by_cases h2 : n ≤ hi
  all_goals
    go_enter Try.func76, Try.ntmps76
    go_wp2
    go_ret
    exact ⟨by simp [*], rfl⟩

theorem inRange_any (n lo hi : Int) (w : World) :
    Calls Try.prog 88 #[.int .i64 n, .int .i64 lo, .int .i64 hi] w fun e w' => e = .returned (.bool (M1.inB n lo hi)) ∧ w' = w := by
  unfold M1.inB
  by_cases h1 : lo ≤ n <;> by_cases h2 : n ≤ hi
  all_goals
    go_enter Try.func88, Try.ntmps88
    go_wp2
    go_ret
    exact ⟨by simp [*], rfl⟩

theorem timeOk_any (n : Int) (w : World) :
    Calls Try.prog 113 #[.int .i64 n] w fun e w' => e = .returned (.bool (M1.inB n 0 1000000000)) ∧ w' = w := by
  go_enter Try.func113, Try.ntmps113
  go_wp2_with ((go_at_call 88; refine (inRange_any _ _ _ _).mono ?_; rintro e w' ⟨rfl, rfl⟩))
  go_ret
  exact ⟨rfl, rfl⟩

theorem stampOk_spec (a b c : Int) (w : World) :
    Calls Try.prog 75 #[.agg #[.int .i64 a, .int .i64 b, .int .i64 c]] w fun e w' => e = .returned (.bool (M1.stOk a b c)) ∧ Below w.heap.size w w' := by
  unfold M1.stOk
  go_enter Try.func75, Try.ntmps75
  go_wp2_with ((go_at_call 76; refine (l1In_any _ _ _ _).mono ?_; rintro e w' ⟨rfl, rfl⟩))
  all_goals (go_ret)
  all_goals (exact ⟨by simp [*], (Below.refl _ _).alloc (Nat.le_refl _) _⟩)

theorem stampOk_impl (a b c : Int) (w : World) :
    Calls Try.prog 87 #[.agg #[.int .i64 a, .int .i64 b, .int .i64 c]] w fun e w' => e = .returned (.bool (M1.stOk a b c)) ∧ Below w.heap.size w w' := by
  unfold M1.stOk
  go_enter Try.func87, Try.ntmps87
  go_wp2_with (first | (go_at_call 88; refine (inRange_any _ _ _ _).mono ?_; rintro e w' ⟨rfl, rfl⟩) | (go_at_call 113; refine (timeOk_any _ _).mono ?_; rintro e w' ⟨rfl, rfl⟩))
  all_goals (go_ret)
  all_goals (exact ⟨by simp [*], (Below.refl _ _).alloc (Nat.le_refl _) _⟩)

theorem ahead_spec (a b c x y z : Int) (w : World) :
    Calls Try.prog 62 #[.agg #[.int .i64 a, .int .i64 b, .int .i64 c], .agg #[.int .i64 x, .int .i64 y, .int .i64 z]] w fun e w' => e = .returned (.bool (M1.aheadB a b c x y z)) ∧ Below w.heap.size w w' := by
  unfold M1.aheadB
  go_enter Try.func62, Try.ntmps62
  go_wp2
  all_goals (go_ret)
  all_goals (exact ⟨by simp_all, ((Below.refl _ _).alloc (Nat.le_refl _) _).alloc (by simp) _⟩)

theorem ahead_impl (a b c x y z : Int) (w : World) :
    Calls Try.prog 52 #[.agg #[.int .i64 a, .int .i64 b, .int .i64 c], .agg #[.int .i64 x, .int .i64 y, .int .i64 z]] w fun e w' => e = .returned (.bool (M1.aheadB a b c x y z)) ∧ Below w.heap.size w w' := by
  unfold M1.aheadB
  go_enter Try.func52, Try.ntmps52
  go_wp2
  all_goals (go_ret)
  all_goals (exact ⟨by simp_all, ((Below.refl _ _).alloc (Nat.le_refl _) _).alloc (by simp) _⟩)

end Go.Proofs.Ytkdmkgpjcbignaa
