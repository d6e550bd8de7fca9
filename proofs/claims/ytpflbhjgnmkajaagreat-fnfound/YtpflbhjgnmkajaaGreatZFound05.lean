/-
  Texts of one proof, joined: Math1, Walk1.
-/
import Derived.Test.YtpflbhjgnmkajaaGreatRows
import Derived.Test.YtpflbhjgnmkajaaGreatZFound00
import Derived.WalkKit
import Derived.ProofKit
import Derived.OpenShut
import Derived.Below
namespace M1

def inB (n lo hi : Int) : Bool := decide (lo ≤ n) && decide (n ≤ hi)

theorem inB_true {n lo hi : Int} (h : inB n lo hi = true) : lo ≤ n ∧ n ≤ hi := by
  simpa [inB] using h
theorem inB_mk {n lo hi : Int} (h1 : lo ≤ n) (h2 : n ≤ hi) : inB n lo hi = true := by
  simp [inB, h1, h2]

def stOk (a b c : Int) : Bool := inB a 0 1000000000 && inB b 0 1000000 && inB c 1 5

theorem stOk_true {a b c : Int} (h : stOk a b c = true) : 0 ≤ a ∧ a ≤ 1000000000 ∧ 0 ≤ b ∧ b ≤ 1000000 ∧ 1 ≤ c ∧ c ≤ 5 := by
  simp [stOk, inB] at h; omega
theorem stOk_mk {a b c : Int} (h : 0 ≤ a ∧ a ≤ 1000000000 ∧ 0 ≤ b ∧ b ≤ 1000000 ∧ 1 ≤ c ∧ c ≤ 5) : stOk a b c = true := by
  simp [stOk, inB]; omega

def aheadB (a b c x y z : Int) : Bool :=
  if a = x then (if b = y then decide (c < z) else decide (b < y)) else decide (a < x)

theorem ahead_cases (a b c x y z : Int) :
    (aheadB a b c x y z = true ∧ aheadB x y z a b c = false ∧ ¬ (a = x ∧ b = y ∧ c = z)) ∨ (aheadB a b c x y z = false ∧ aheadB x y z a b c = true ∧ ¬ (a = x ∧ b = y ∧ c = z)) ∨ (aheadB a b c x y z = false ∧ aheadB x y z a b c = false ∧ a = x ∧ b = y ∧ c = z) := by
  unfold aheadB
  by_cases h1 : a = x
  · by_cases h2 : b = y
    · have h1' : x = a := h1.symm
      have h2' : y = b := h2.symm
      simp [h1, h2]; omega
    · have h2' : ¬ y = b := fun e => h2 e.symm
      simp [h1, h2, h2']; omega
  · have h1' : ¬ x = a := fun e => h1 e.symm
    simp [h1, h1']; omega

structure St where
  a : Int
  b : Int
  c : Int
  ok : Bool

def nextP (a b c now : Int) : St :=
  if a < now then ⟨now, 0, c, true⟩ else if b = 1000000 then ⟨0, 0, 0, false⟩ else ⟨a, b + 1, c, true⟩

def tickP (a b c now : Int) : St :=
  if stOk a b c = true ∧ inB now 0 1000000000 = true then nextP a b c now else ⟨0, 0, 0, false⟩

def overB (a b x y : Int) : Bool := decide (a < x) || (decide (x = a) && decide (b < y))

def metP (a b c x y z now : Int) : St :=
  if stOk a b c = true ∧ stOk x y z = true ∧ inB now 0 1000000000 = true then
    (if overB a b x y = true then nextP x y c now else nextP a b c now) else ⟨0, 0, 0, false⟩


theorem next_props {a b c now : Int} (h : stOk a b c = true) (hn : inB now 0 1000000000 = true) (hk : (nextP a b c now).ok = true) :
    aheadB a b c (nextP a b c now).a (nextP a b c now).b (nextP a b c now).c = true ∧ now ≤ (nextP a b c now).a ∧ (nextP a b c now).c = c ∧ stOk (nextP a b c now).a (nextP a b c now).b (nextP a b c now).c = true ∧ (a < (nextP a b c now).a ∨ ((nextP a b c now).a = a ∧ b < (nextP a b c now).b)) := by
  have h1 := stOk_true h
  have h2 := inB_true hn
  unfold nextP at hk ⊢
  by_cases e1 : a < now
  · simp only [if_pos e1]
    have e2 : ¬ a = now := by omega
    refine ⟨by simp [aheadB, e2, e1], by omega, by trivial, stOk_mk (by omega), by omega⟩
  · simp only [if_neg e1] at hk ⊢
    by_cases e2 : b = 1000000
    · simp [e2] at hk
    · simp only [if_neg e2] at hk ⊢
      have e3 : ¬ b = b + 1 := by omega
      refine ⟨?_, by omega, by trivial, stOk_mk (by omega), by first | omega | (simp; done) | (simp; omega)⟩
      unfold aheadB
      rw [if_pos rfl, if_neg e3]
      simp; omega

theorem tick_props {a b c now : Int} (hk : (tickP a b c now).ok = true) :
    aheadB a b c (tickP a b c now).a (tickP a b c now).b (tickP a b c now).c = true ∧ now ≤ (tickP a b c now).a ∧ (tickP a b c now).c = c ∧ stOk (tickP a b c now).a (tickP a b c now).b (tickP a b c now).c = true := by
  unfold tickP at hk ⊢
  by_cases h : stOk a b c = true ∧ inB now 0 1000000000 = true
  · rw [if_pos h] at hk ⊢
    have := next_props h.1 h.2 hk
    exact ⟨this.1, this.2.1, this.2.2.1, this.2.2.2.1⟩
  · rw [if_neg h] at hk; simp at hk

theorem ahead_lt {a b c x y z : Int} (h : a < x ∨ (x = a ∧ b < y)) : aheadB a b c x y z = true := by
  unfold aheadB
  rcases h with h | ⟨h1, h2⟩
  · have e : ¬ a = x := by omega
    simp [e, h]
  · have e : ¬ b = y := by omega
    simp [h1, e, h2]

theorem met_props {a b c x y z now : Int} (hk : (metP a b c x y z now).ok = true) :
    aheadB a b c (metP a b c x y z now).a (metP a b c x y z now).b (metP a b c x y z now).c = true ∧ (x < (metP a b c x y z now).a ∨ ((metP a b c x y z now).a = x ∧ y < (metP a b c x y z now).b)) ∧ now ≤ (metP a b c x y z now).a ∧ (metP a b c x y z now).c = c ∧ stOk (metP a b c x y z now).a (metP a b c x y z now).b (metP a b c x y z now).c = true := by
  unfold metP at hk ⊢
  by_cases h : stOk a b c = true ∧ stOk x y z = true ∧ inB now 0 1000000000 = true
  · rw [if_pos h] at hk ⊢
    obtain ⟨h1, h2, h3⟩ := h
    have b1 := stOk_true h1
    have b2 := stOk_true h2
    by_cases ho : overB a b x y = true
    · rw [if_pos ho] at hk ⊢
      have hs : stOk x y c = true := stOk_mk (by omega)
      have hp := next_props hs h3 hk
      have ho' : a < x ∨ (x = a ∧ b < y) := by simpa [overB] using ho
      exact ⟨ahead_lt (by omega), hp.2.2.2.2, hp.2.1, hp.2.2.1, hp.2.2.2.1⟩
    · rw [if_neg ho] at hk ⊢
      have hp := next_props h1 h3 hk
      have ho' : ¬ (a < x ∨ (x = a ∧ b < y)) := by simpa [overB] using ho
      exact ⟨hp.1, by omega, hp.2.1, hp.2.2.1, hp.2.2.2.1⟩
  · rw [if_neg h] at hk; simp at hk
end M1

namespace Go.Proofs.YtpflbhjgnmkajaaGreat
open Go.ChangeShapes Go.WideShapes Go.ChangeAt Go.RowKit

theorem l1In_any (n lo hi : Int) (w : World) :
    Calls Tryz.prog 23 #[.int .i64 n, .int .i64 lo, .int .i64 hi] w fun e w' => e = .returned (.bool (M1.inB n lo hi)) ∧ w' = w := by
  unfold M1.inB
  by_cases h1 : lo ≤ n <;> by_cases h2 : n ≤ hi
  all_goals
    go_enter Tryz.func23, Tryz.ntmps23
    go_wp2
    go_ret
    exact ⟨by simp [*], rfl⟩

theorem inRange_any (n lo hi : Int) (w : World) :
    Calls Tryz.prog 42 #[.int .i64 n, .int .i64 lo, .int .i64 hi] w fun e w' => e = .returned (.bool (M1.inB n lo hi)) ∧ w' = w := by
  unfold M1.inB
  by_cases h1 : lo ≤ n <;> by_cases h2 : n ≤ hi
  all_goals
    go_enter Tryz.func42, Tryz.ntmps42
    go_wp2
    go_ret
    exact ⟨by simp [*], rfl⟩

theorem timeOk_any (n : Int) (w : World) :
    Calls Tryz.prog 17 #[.int .i64 n] w fun e w' => e = .returned (.bool (M1.inB n 0 1000000000)) ∧ w' = w := by
  go_enter Tryz.func17, Tryz.ntmps17
  go_wp2_with ((go_at_call 42; refine (inRange_any _ _ _ _).mono ?_; rintro e w' ⟨rfl, rfl⟩))
  go_ret
  exact ⟨rfl, rfl⟩

theorem stampOk_spec (a b c : Int) (w : World) :
    Calls Tryz.prog 51 #[.agg #[.int .i64 a, .int .i64 b, .int .i64 c]] w fun e w' => e = .returned (.bool (M1.stOk a b c)) ∧ Below w.heap.size w w' := by
  unfold M1.stOk
  go_enter Tryz.func51, Tryz.ntmps51
  go_wp2_with ((go_at_call 23; refine (l1In_any _ _ _ _).mono ?_; rintro e w' ⟨rfl, rfl⟩))
  all_goals (go_ret)
  all_goals (exact ⟨by simp [*], (Below.refl _ _).alloc (Nat.le_refl _) _⟩)

theorem stampOk_impl (a b c : Int) (w : World) :
    Calls Tryz.prog 62 #[.agg #[.int .i64 a, .int .i64 b, .int .i64 c]] w fun e w' => e = .returned (.bool (M1.stOk a b c)) ∧ Below w.heap.size w w' := by
  unfold M1.stOk
  go_enter Tryz.func62, Tryz.ntmps62
  go_wp2_with (first | (go_at_call 42; refine (inRange_any _ _ _ _).mono ?_; rintro e w' ⟨rfl, rfl⟩) | (go_at_call 17; refine (timeOk_any _ _).mono ?_; rintro e w' ⟨rfl, rfl⟩))
  all_goals (go_ret)
  all_goals (exact ⟨by simp [*], (Below.refl _ _).alloc (Nat.le_refl _) _⟩)

theorem ahead_spec (a b c x y z : Int) (w : World) :
    Calls Tryz.prog 28 #[.agg #[.int .i64 a, .int .i64 b, .int .i64 c], .agg #[.int .i64 x, .int .i64 y, .int .i64 z]] w fun e w' => e = .returned (.bool (M1.aheadB a b c x y z)) ∧ Below w.heap.size w w' := by
  unfold M1.aheadB
  go_enter Tryz.func28, Tryz.ntmps28
  go_wp2
  all_goals (go_ret)
  all_goals (exact ⟨by simp_all, ((Below.refl _ _).alloc (Nat.le_refl _) _).alloc (by simp) _⟩)

theorem ahead_impl (a b c x y z : Int) (w : World) :
    Calls Tryz.prog 31 #[.agg #[.int .i64 a, .int .i64 b, .int .i64 c], .agg #[.int .i64 x, .int .i64 y, .int .i64 z]] w fun e w' => e = .returned (.bool (M1.aheadB a b c x y z)) ∧ Below w.heap.size w w' := by
  unfold M1.aheadB
  go_enter Tryz.func31, Tryz.ntmps31
  go_wp2
  all_goals (go_ret)
  all_goals (exact ⟨by simp_all, ((Below.refl _ _).alloc (Nat.le_refl _) _).alloc (by simp) _⟩)

end Go.Proofs.YtpflbhjgnmkajaaGreat
