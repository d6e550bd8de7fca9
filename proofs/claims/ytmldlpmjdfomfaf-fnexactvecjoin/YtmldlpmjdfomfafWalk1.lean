/-
  Contracts of chapter 1's functions on stamps, of the program and of the model: each returns what its function of Math1 says, and turns nothing that was there.
-/
import Derived.Test.YtmldlpmjdfomfafRows
import Derived.Test.YtmldlpmjdfomfafMath1
import Derived.Test.YtmldlpmjdfomfafKept
import Derived.WalkKit
import Derived.ProofKit
import Derived.OpenShut
import Derived.Below
namespace Go.Proofs.Ytmldlpmjdfomfaf
open Go.ChangeShapes Go.WideShapes Go.ChangeAt Go.RowKit

theorem l1In_any (n lo hi : Int) (w : World) :
    Calls Try.prog 31 #[.int .i64 n, .int .i64 lo, .int .i64 hi] w fun e w' => e = .returned (.bool (M1.inB n lo hi)) ∧ w' = w := by
  unfold M1.inB
  by_cases h1 : lo ≤ n <;> by_cases h2 : n ≤ hi
  all_goals
    go_enter Try.func31, Try.ntmps31
    go_wp2
    go_ret
    exact ⟨by simp [*], rfl⟩

theorem inRange_any (n lo hi : Int) (w : World) :
    Calls Try.prog 40 #[.int .i64 n, .int .i64 lo, .int .i64 hi] w fun e w' => e = .returned (.bool (M1.inB n lo hi)) ∧ w' = w := by
  unfold M1.inB
  by_cases h1 : lo ≤ n <;> by_cases h2 : n ≤ hi
  all_goals
    go_enter Try.func40, Try.ntmps40
    go_wp2
    go_ret
    exact ⟨by simp [*], rfl⟩

theorem timeOk_any (n : Int) (w : World) :
    Calls Try.prog 44 #[.int .i64 n] w fun e w' => e = .returned (.bool (M1.inB n 0 1000000000)) ∧ w' = w := by
  go_enter Try.func44, Try.ntmps44
  go_wp2_with ((go_at_call 40; refine (inRange_any _ _ _ _).mono ?_; rintro e w' ⟨rfl, rfl⟩))
  go_ret
  exact ⟨rfl, rfl⟩

theorem stampOk_spec (a b c : Int) (w : World) :
    Calls Try.prog 30 #[.agg #[.int .i64 a, .int .i64 b, .int .i64 c]] w fun e w' => e = .returned (.bool (M1.stOk a b c)) ∧ Below w.heap.size w w' := by
  unfold M1.stOk
  go_enter Try.func30, Try.ntmps30
  go_wp2_with ((go_at_call 31; refine (l1In_any _ _ _ _).mono ?_; rintro e w' ⟨rfl, rfl⟩))
  all_goals (go_ret)
  all_goals (exact ⟨by simp [*], (Below.refl _ _).alloc (Nat.le_refl _) _⟩)

theorem stampOk_impl (a b c : Int) (w : World) :
    Calls Try.prog 33 #[.agg #[.int .i64 a, .int .i64 b, .int .i64 c]] w fun e w' => e = .returned (.bool (M1.stOk a b c)) ∧ Below w.heap.size w w' := by
  unfold M1.stOk
  go_enter Try.func33, Try.ntmps33
  go_wp2_with (first | (go_at_call 40; refine (inRange_any _ _ _ _).mono ?_; rintro e w' ⟨rfl, rfl⟩) | (go_at_call 44; refine (timeOk_any _ _).mono ?_; rintro e w' ⟨rfl, rfl⟩))
  all_goals (go_ret)
  all_goals (exact ⟨by simp [*], (Below.refl _ _).alloc (Nat.le_refl _) _⟩)

theorem next_spec (a b c now : Int) (w : World) (hb : 0 ≤ b ∧ b ≤ 1000000) :
    Calls Try.prog 32 #[.agg #[.int .i64 a, .int .i64 b, .int .i64 c], .int .i64 now] w fun e w' => e = .returned (.tuple #[.agg #[.int .i64 (M1.nextP a b c now).a, .int .i64 (M1.nextP a b c now).b, .int .i64 (M1.nextP a b c now).c], .bool (M1.nextP a b c now).ok]) ∧ Below w.heap.size w w' := by
  obtain ⟨hb1, hb2⟩ := hb
  by_cases h1 : a < now
  · have e1 : M1.nextP a b c now = ⟨now, 0, c, true⟩ := by simp [M1.nextP, h1]
    rw [e1]; clear e1
    go_enter Try.func32, Try.ntmps32
    go_wp2
    refine bodyPost_ret (v := .tuple #[.agg #[.int .i64 now, .int .i64 0, .int .i64 c], .bool true]) (by simp [results, Try.results32, go_sem]) rfl ⟨rfl, ?_⟩
    repeat (first | (with_reducible exact Below.refl _ _) | ((with_reducible refine Below.setCell ?_ ?_ _); rotate_left; (focus (first | omega | (simp; done) | (simp; omega)))) | ((with_reducible refine Below.alloc ?_ ?_ _); rotate_left; (focus (first | omega | (simp; done) | (simp; omega)))) | (with_reducible refine Below.drew ?_))
  · by_cases h2 : b = 1000000
    · have e1 : M1.nextP a b c now = ⟨0, 0, 0, false⟩ := by simp [M1.nextP, h1, h2]
      rw [e1]; clear e1
      subst h2
      go_enter Try.func32, Try.ntmps32
      go_wp2
      refine bodyPost_ret (v := .tuple #[.agg #[.int .i64 0, .int .i64 0, .int .i64 0], .bool false]) (by simp [results, Try.results32, go_sem]) rfl ⟨rfl, ?_⟩
      repeat (first | (with_reducible exact Below.refl _ _) | ((with_reducible refine Below.setCell ?_ ?_ _); rotate_left; (focus (first | omega | (simp; done) | (simp; omega)))) | ((with_reducible refine Below.alloc ?_ ?_ _); rotate_left; (focus (first | omega | (simp; done) | (simp; omega)))) | (with_reducible refine Below.drew ?_))
    · have e1 : M1.nextP a b c now = ⟨a, b + 1, c, true⟩ := by simp [M1.nextP, h1, h2]
      rw [e1]; clear e1
      have h3 : (b == 1000000) = false := by simp [h2]
      go_enter Try.func32, Try.ntmps32
      go_wp2
      refine bodyPost_ret (v := .tuple #[.agg #[.int .i64 a, .int .i64 (b + 1), .int .i64 c], .bool true]) (by simp [results, Try.results32, go_sem]) rfl ⟨rfl, ?_⟩
      repeat (first | (with_reducible exact Below.refl _ _) | ((with_reducible refine Below.setCell ?_ ?_ _); rotate_left; (focus (first | omega | (simp; done) | (simp; omega)))) | ((with_reducible refine Below.alloc ?_ ?_ _); rotate_left; (focus (first | omega | (simp; done) | (simp; omega)))) | (with_reducible refine Below.drew ?_))

end Go.Proofs.Ytmldlpmjdfomfaf
