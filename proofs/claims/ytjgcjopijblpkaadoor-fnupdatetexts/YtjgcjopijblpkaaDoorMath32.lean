/-
  Plain mathematics of a number's text, byte by byte.
-/
import Derived.Test.YtjgcjopijblpkaaDoorMath31
namespace M1
open Go
theorem get_list {s : ByteArray} {k : Nat} (h : k < s.size) : s.data.toList[k]? = some s[k] := by
  have e : s.size = s.data.size := rfl
  rw [e] at h
  rw [Array.getElem?_toList, Array.getElem?_eq_getElem h]
  rfl
theorem len_list (s : ByteArray) : s.data.toList.length = s.size := by rw [Array.length_toList]; rfl
theorem take_list {s : ByteArray} {k : Nat} (h : k < s.size) : s.data.toList.take (k + 1) = s.data.toList.take k ++ [s[k]] := by
  have hl : k < s.data.toList.length := by rw [len_list]; exact h
  rw [List.take_succ_eq_append_getElem hl]
  have := get_list h
  rw [List.getElem?_eq_getElem hl] at this
  injection this with e
  rw [e]
theorem val_step {s : ByteArray} {k : Nat} (h : k < s.size) : valL (s.data.toList.take (k + 1)) = valL (s.data.toList.take k) * 10 + (s[k].toNat - 48) := by
  rw [take_list h, valL_snoc]
theorem val_lt {s : ByteArray} : ∀ k, k ≤ s.size → (∀ j (hj : j < s.size), j < k → digB s[j] = true) → valL (s.data.toList.take k) < 10 ^ k
  | 0, _, _ => by simp [valL]
  | k + 1, hk, h => by
    have ih := val_lt k (by omega) fun j hj hjk => h j hj (by omega)
    rw [val_step (by omega), Nat.pow_succ]
    have := (digB_iff.1 (h k (by omega) (by omega))).2
    omega
theorem num_none {s : ByteArray} (h : s.size = 0) : numB s.data.toList = false := by
  unfold numB; rw [len_list, h]; rfl
theorem num_long {s : ByteArray} (h : 10 < s.size) : numB s.data.toList = false := by
  unfold numB; rw [len_list]
  have : decide (s.size ≤ 10) = false := by simp; omega
  rw [this]; simp
theorem num_nought {s : ByteArray} (h : 1 < s.size) (h0 : s[0].toNat = 48) : numB s.data.toList = false := by
  unfold numB; rw [len_list]
  have e1 : decide (s.size = 1) = false := by simp; omega
  have hc : s[0] = 48 := by
    have : s[0] = UInt8.ofNat s[0].toNat := by simp
    rw [this, h0]; rfl
  have e2 : s.data.toList.head? = some 48 := by
    rw [List.head?_eq_getElem?, get_list (by omega), hc]
  rw [e1, e2]; simp
theorem num_bad {s : ByteArray} {k : Nat} (hk : k < s.size) (h : digB s[k] = false) : numB s.data.toList = false := by
  unfold numB
  have e : s.data.toList.all digB = false := by
    rw [List.all_eq_false]
    exact ⟨s[k], List.mem_of_getElem? (get_list hk), by simp [h]⟩
  rw [e]; simp
theorem num_good {s : ByteArray} (h1 : 1 ≤ s.size) (h2 : s.size ≤ 10) (h3 : s.size = 1 ∨ ¬ ∃ h : 0 < s.size, s[0].toNat = 48) (h : ∀ j (hj : j < s.size), digB s[j] = true) : numB s.data.toList = true := by
  unfold numB; rw [len_list]
  have e : s.data.toList.all digB = true := by
    rw [List.all_eq_true]
    intro c hc
    obtain ⟨k, hk, e⟩ := List.getElem_of_mem hc
    have hk2 : k < s.size := by rw [← len_list]; exact hk
    have := get_list hk2
    rw [List.getElem?_eq_getElem hk] at this
    injection this with e2
    rw [← e, e2]; exact h k hk2
  rw [e]
  simp only [Bool.and_eq_true, decide_eq_true_eq, Bool.or_eq_true, Bool.not_eq_true', beq_eq_false_iff_ne, ne_eq]
  refine ⟨⟨⟨h1, h2⟩, trivial⟩, h3.imp id fun hn e => hn ⟨by omega, ?_⟩⟩
  rw [List.head?_eq_getElem?, get_list (by omega)] at e
  injection e with e
  rw [e]; rfl
theorem val_all (s : ByteArray) {k : Nat} (h : k = s.size) : valL (s.data.toList.take k) = valL s.data.toList := by
  rw [h, ← len_list, List.take_length]
/-- What the readers of a number answer. -/
def numV (s : ByteArray) : Int := if numB s.data.toList = true then (valL s.data.toList : Int) else 0
end M1
