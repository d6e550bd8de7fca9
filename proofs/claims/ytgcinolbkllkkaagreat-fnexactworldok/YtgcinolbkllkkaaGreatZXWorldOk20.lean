/-
  Texts of one proof, joined: Math12, Math13a.
-/
import Derived.Test.YtgcinolbkllkkaaGreatZXWorldOk00
import Derived.Test.YtgcinolbkllkkaaGreatZXWorldOk19
namespace M1
theorem next_dn {us : List Upd} (h : ∀ j, j < us.length → okAt us j = true) {k : Nat} (hk : k < us.length) : (up us k).dn = lastN us k (up us k).dr + 1 := by
 have h1 := h k hk
 unfold okAt at h1
 rw [Bool.and_eq_true] at h1
 cases k with
 | zero =>
  have h2 := h1.2
  simp at h2
  rw [h2]; rfl
 | succ k =>
  have h2 : fol (up us k) (up us (k + 1)) = true := by simpa using h1.2
  unfold fol at h2
  by_cases e : (up us (k + 1)).dr = (up us k).dr
  ·rw [if_pos e] at h2
   rw [Bool.and_eq_true] at h2
   have h3 : (up us (k + 1)).dn = (up us k).dn + 1 := of_decide_eq_true h2.1
   rw [h3, lastN_succ, if_pos e.symm]
  ·rw [if_neg e] at h2
   rw [Bool.and_eq_true] at h2
   have h3 : (up us (k + 1)).dn = 1 := of_decide_eq_true h2.2
   have h4 : (up us k).dr < (up us (k + 1)).dr := of_decide_eq_true h2.1
   have h5 : lastN us (k + 1) (up us (k + 1)).dr = 0 := lastN_none _ fun j hj => by
    have := ok_mono h (i := j) k (by omega) (by omega)
    omega
   rw [h3, h5]; rfl

theorem lastN_bd {us : List Upd} (h : ∀ j, j < us.length → okAt us j = true) (r : Int) : ∀ k, k ≤ us.length → 0 ≤ lastN us k r ∧ lastN us k r ≤ 1000000
 | 0, _ => by simp [lastN]
 | k + 1, hk => by
  have ih := lastN_bd h r k (by omega)
  have hr := ok_rg h (show k < us.length by omega)
  rw [lastN_succ]
  by_cases e : (up us k).dr = r
  ·rw [if_pos e]; omega
  ·rw [if_neg e]; exact ih

theorem lastN_ge {us : List Upd} (h : ∀ j, j < us.length → okAt us j = true) {j : Nat} : ∀ k, j < k → k ≤ us.length → (up us j).dn ≤ lastN us k (up us j).dr
 | 0, hj, _ => absurd hj (Nat.not_lt_zero _)
 | k + 1, hj, hk => by
  rw [lastN_succ]
  by_cases e : (up us k).dr = (up us j).dr
  ·rw [if_pos e]
   by_cases ej : j = k
   ·rw [ej]; exact Int.le_refl _
   ·have ih := lastN_ge h (j := j) k (by omega) (by omega)
    have := next_dn h (show k < us.length by omega)
    rw [e] at this
    omega
  ·rw [if_neg e]
   have ej : ¬ j = k := fun ej => e (by rw [ej])
   exact lastN_ge h k (by omega) (by omega)

end M1

namespace M1
def jl (xs ys : List Upd) : List Upd := jlTo xs ys ys.length

def jOk (xs ys : List Upd) : Bool := agreeB xs ys && setOk (jl xs ys)

def jL (xs ys : List Upd) : List Upd := if jOk xs ys = true then jl xs ys else []

theorem j_no {xs ys : List Upd} (h : agreeB xs ys = false) : jOk xs ys = false ∧ jL xs ys = [] := by
 have : jOk xs ys = false := by unfold jOk; rw [h]; rfl
 exact ⟨this, by unfold jL; rw [this]; rfl⟩

theorem j_not {xs ys : List Upd} (h : setOk (jl xs ys) = false) : jOk xs ys = false ∧ jL xs ys = [] := by
 have : jOk xs ys = false := by unfold jOk; rw [h]; simp
 exact ⟨this, by unfold jL; rw [this]; rfl⟩

theorem j_yes {xs ys : List Upd} (h : agreeB xs ys = true) (h2 : setOk (jl xs ys) = true) : jOk xs ys = true ∧ jL xs ys = jl xs ys := by
 have : jOk xs ys = true := by unfold jOk; rw [h, h2]; rfl
 exact ⟨this, by unfold jL; rw [if_pos this]⟩

theorem agreeB_true {xs ys : List Upd} (h : agreeB xs ys = true) : setOk xs = true ∧ setOk ys = true ∧ agreeTo xs ys ys.length := by
 unfold agreeB at h
 simp at h
 exact h

theorem puts_mem {xs ys : List Upd} {x : Upd} : ∀ {k : Nat}, x ∈ putsTo xs ys k → x ∈ xs ∨ ∃ j, j < k ∧ x = up ys j
 | 0, h => Or.inl h
 | k + 1, h => by
  unfold putsTo putL at h
  split at h
  ·rcases puts_mem h with h | ⟨j, hj, e⟩
   ·exact Or.inl h
   ·exact Or.inr ⟨j, by omega, e⟩
  ·rcases List.mem_append.1 h with h | h
   ·rcases puts_mem h with h | ⟨j, hj, e⟩
    ·exact Or.inl h
    ·exact Or.inr ⟨j, by omega, e⟩
   ·simp at h; exact Or.inr ⟨k, by omega, h⟩

theorem puts_len {xs ys : List Upd} : ∀ k, (putsTo xs ys k).length ≤ xs.length + k
 | 0 => Nat.le_refl _
 | k + 1 => by
  have := puts_len (xs := xs) (ys := ys) k
  unfold putsTo putL
  split
  ·omega
  ·simp; omega

theorem mem_up {l : List Upd} {x : Upd} (h : x ∈ l) : ∃ i, i < l.length ∧ up l i = x := by
 obtain ⟨i, hi, e⟩ := List.getElem_of_mem h
 exact ⟨i, hi, by rw [← e]; simp [up, List.getD, hi]⟩

theorem puts_same {xs ys : List Upd} (h : agreeB xs ys = true) {k : Nat} (hk : k < ys.length) : ∀ x, fd (putsTo xs ys k) (up ys k).dr (up ys k).dn = some x → x = up ys k := fun x hx => by
 obtain ⟨_, h2, h3⟩ := agreeB_true h
 obtain ⟨i, hi, e, e1, e2⟩ := fd_some hx
 have hm : x ∈ putsTo xs ys k := by
  rw [← e]
  have : up (putsTo xs ys k) i = (putsTo xs ys k)[i] := by simp [up, List.getD, hi]
  rw [this]; exact List.getElem_mem hi
 rcases puts_mem hm with hm | ⟨j, hj, e⟩
 ·obtain ⟨q, hq, e⟩ := mem_up hm
  have := h3 k hk q hq (by rw [e]; exact ⟨e1, e2⟩)
  rw [e] at this
  exact ueq_eq this
 ·rw [e] at e1 e2
  exact absurd ⟨e1, e2⟩ (ok_apart (setOk_all h2) j k hj hk)

theorem puts_txt {xs ys : List Upd} (h : agreeB xs ys = true) : ∀ i, i < (putsTo xs ys ys.length).length → (up (putsTo xs ys ys.length) i).s.size ≤ 1000 := fun i hi => by
 obtain ⟨h1, h2, _⟩ := agreeB_true h
 have hm : up (putsTo xs ys ys.length) i ∈ putsTo xs ys ys.length := by
  have : up (putsTo xs ys ys.length) i = (putsTo xs ys ys.length)[i] := by simp [up, List.getD, hi]
  rw [this]; exact List.getElem_mem hi
 rcases puts_mem hm with hm | ⟨j, hj, e⟩
 ·obtain ⟨q, hq, e⟩ := mem_up hm
  have := ok_txt (okAt_ok (setOk_all h1 q hq))
  rw [e] at this
  omega
 ·have := ok_txt (okAt_ok (setOk_all h2 j hj))
  rw [e]; omega

end M1
