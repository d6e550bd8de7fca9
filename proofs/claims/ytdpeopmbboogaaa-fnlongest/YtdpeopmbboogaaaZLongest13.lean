/-
  Plain mathematics: the last dot of each run of one region; the first number of a region in a list of dots.
-/
import Derived.Test.YtdpeopmbboogaaaZLongest05
namespace M1

/-- Does a run of one region end at place i? -/
def endAt (us : List Upd) (i : Nat) : Prop := i + 1 = us.length ∨ ¬ (up us (i + 1)).dr = (up us i).dr
instance (us : List Upd) (i : Nat) : Decidable (endAt us i) := by unfold endAt; exact inferInstance
def l3To (us : List Upd) : Nat → List (Int × Int)
  | 0 => []
  | k + 1 => if endAt us k then l3To us k ++ [((up us k).dr, (up us k).dn)] else l3To us k
def l3v (us : List Upd) : List (Int × Int) := l3To us us.length
theorem l3To_yes {us : List Upd} {k : Nat} (h : endAt us k) : l3To us (k + 1) = l3To us k ++ [((up us k).dr, (up us k).dn)] := by simp [l3To, h]
theorem l3To_no {us : List Upd} {k : Nat} (h : ¬ endAt us k) : l3To us (k + 1) = l3To us k := by simp [l3To, h]
theorem l3To_len (us : List Upd) : ∀ k, (l3To us k).length ≤ k
  | 0 => by simp [l3To]
  | k + 1 => by
    have := l3To_len us k
    by_cases h : endAt us k
    · rw [l3To_yes h]; simp; omega
    · rw [l3To_no h]; omega
theorem l3v_len (us : List Upd) : (l3v us).length ≤ us.length := l3To_len us us.length

/-- The first number of that region. -/
def fm : List (Int × Int) → Int → Int
  | [], _ => 0
  | d :: l, r => if d.1 = r then d.2 else fm l r
theorem fm_none {r : Int} : ∀ {l : List (Int × Int)}, (∀ j, j < l.length → ¬ rg l j = r) → fm l r = 0
  | [], _ => rfl
  | d :: l, h => by
    have h0 : ¬ d.1 = r := h 0 (by simp)
    unfold fm
    rw [if_neg h0]
    exact fm_none fun j hj => h (j + 1) (by simpa using hj)
theorem fm_at {r : Int} : ∀ {l : List (Int × Int)} {k : Nat}, k < l.length → rg l k = r → (∀ j, j < k → ¬ rg l j = r) → fm l r = nm l k
  | [], k, hk, _, _ => absurd hk (by simp)
  | d :: l, 0, _, h, _ => by
    have h0 : d.1 = r := h
    unfold fm
    rw [if_pos h0]; rfl
  | d :: l, k + 1, hk, h, hall => by
    have h0 : ¬ d.1 = r := hall 0 (by omega)
    unfold fm
    rw [if_neg h0]
    exact fm_at (l := l) (k := k) (by simpa using hk) h fun j hj => hall (j + 1) (by omega)
theorem fm_lk {l : List (Int × Int)} (h : vecOk l = true) (r : Int) : fm l r = lk l r := by
  rcases lk_some_or l r with hn | ⟨j, hj, rfl⟩
  · rw [fm_none hn, lk_none hn]
  · rw [lk_at h hj]
    exact fm_at hj rfl fun i hi e => by
      have := vok_rise h j hi hj
      omega
end M1
