/-
  Contracts of the order of dots: cmp.Compare, cmp.Or, dotOrder, DotAhead.
-/
import Derived.Test.YtpflbhjgnmkajaaGreatZFound07
import Derived.Test.YtpflbhjgnmkajaaGreatZFound08
namespace Go.Proofs.YtpflbhjgnmkajaaGreat
open Go.ChangeShapes Go.WideShapes Go.ChangeAt Go.RowKit
set_option linter.unusedSimpArgs false

theorem isNaN_any (x : Int) (w : World) : Calls Tryz.prog 56 #[.int .i64 x] w fun e w' => e = .returned (.bool false) ∧ w' = w := by
  go_enter Tryz.func56, Tryz.ntmps56
  go_wp2_with fail
  go_ret
  exact ⟨by simp, rfl⟩

theorem compare_any (x y : Int) (w : World) : Calls Tryz.prog 35 #[.int .i64 x, .int .i64 y] w fun e w' => e = .returned (.int .i64 (M1.cmpI x y)) ∧ w' = w := by
  unfold M1.cmpI
  by_cases h1 : x < y
  · have h2 : ¬ y < x := by omega
    go_enter Tryz.func35, Tryz.ntmps35
    go_wp2_with ((go_at_call 56; refine (isNaN_any _ _).mono ?_; rintro e w' ⟨rfl, rfl⟩))
    go_ret
    exact ⟨by simp [h1, h2], rfl⟩
  · by_cases h2 : y < x
    · go_enter Tryz.func35, Tryz.ntmps35
      go_wp2_with ((go_at_call 56; refine (isNaN_any _ _).mono ?_; rintro e w' ⟨rfl, rfl⟩))
      go_ret
      exact ⟨by simp [h1, h2], rfl⟩
    · go_enter Tryz.func35, Tryz.ntmps35
      go_wp2_with ((go_at_call 56; refine (isNaN_any _ _).mono ?_; rintro e w' ⟨rfl, rfl⟩))
      go_ret
      exact ⟨by simp [h1, h2], rfl⟩

theorem dahead_spec (a b x y : Int) (w : World) :
    Calls Tryz.prog 29 #[.agg #[.int .i64 a, .int .i64 b], .agg #[.int .i64 x, .int .i64 y]] w fun e w' => e = .returned (.bool (M1.dahead a b x y)) ∧ Below w.heap.size w w' := by
  unfold M1.dahead
  go_enter Tryz.func29, Tryz.ntmps29
  go_wp2
  all_goals (go_ret)
  all_goals (exact ⟨by simp_all, ((Below.refl _ _).alloc (Nat.le_refl _) _).alloc (by simp) _⟩)

end Go.Proofs.YtpflbhjgnmkajaaGreat
