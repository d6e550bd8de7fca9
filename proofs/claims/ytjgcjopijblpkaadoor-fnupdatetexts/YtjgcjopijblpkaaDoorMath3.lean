/-
  Plain mathematics of spans and updates (no program).
-/
import Derived.Test.YtjgcjopijblpkaaDoorMath1
namespace M1

/-- A small letter. -/
def letB (c : UInt8) : Bool := decide (97 ≤ (c.toNat : Int)) && decide ((c.toNat : Int) ≤ 122)
def allB (s : ByteArray) : Bool := s.data.toList.all letB
def nameB (s : ByteArray) : Bool := (decide (1 ≤ s.size) && decide (s.size ≤ 12)) && allB s

theorem allB_yes {s : ByteArray} (h : ∀ j (hj : j < s.size), letB s[j] = true) : allB s = true := by
  unfold allB
  rw [List.all_eq_true]
  intro x hx
  obtain ⟨j, hj, rfl⟩ := List.mem_iff_getElem.1 hx
  have h2 : letB s.data[j] = true := h j (by simpa using hj)
  simpa using h2
theorem allB_no {s : ByteArray} {j : Nat} (hj : j < s.size) (h : letB s[j] = false) : allB s = false := by
  unfold allB
  rw [List.all_eq_false]
  refine ⟨s[j], ?_, by simp [h]⟩
  show s.data[j] ∈ _
  simp
def spanB (id parent : Int) (s : ByteArray) (start fin : Int) : Bool :=
  inB id 1 1000 && inB parent 0 1000 && (parent != id) && nameB s && inB start 0 1000000000 && inB fin start 1000000000
theorem spanB_eq (id parent : Int) (s : ByteArray) (start fin : Int) : spanB id parent s start fin =
    (inB id 1 1000 && inB parent 0 1000 && (parent != id) && nameB s && inB start 0 1000000000 && inB fin 0 1000000000 && decide (start ≤ fin)) := by
  unfold spanB
  generalize nameB s = b
  generalize (parent != id) = c
  rw [Bool.eq_iff_iff]
  cases b <;> cases c
  all_goals first | (simp [inB]; done) | (simp [inB]; omega)
end M1
