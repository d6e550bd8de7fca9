/-
  Plain mathematics of lists of updates: all of them are right.
-/
import Derived.Test.YtjgcjopijblpkaaDoorZSegmentOf04
namespace M1
def allR (ys : List Upd) : Bool := (List.range ys.length).all fun j => okU (up ys j)
theorem allR_yes {ys : List Upd} (h : ∀ j, j < ys.length → okU (up ys j) = true) : allR ys = true := by simp [allR]; exact h
theorem allR_no {ys : List Upd} {j : Nat} (hj : j < ys.length) (h : okU (up ys j) = false) : allR ys = false := by simp [allR]; exact ⟨j, hj, h⟩
theorem allR_all {ys : List Upd} (h : allR ys = true) : ∀ j, j < ys.length → okU (up ys j) = true := by simp [allR] at h; exact h
end M1
