/-
  Plain mathematics of what a vector does not cover (no program).
-/
import Derived.Test.YtdpeopmbboogaaaZForestOf02
namespace M1
/-- Of the first k updates the first, at most most, that the vector does not cover. -/
def sinceTo (us : List Upd) (ds : List (Int × Int)) (most : Int) : Nat → List Upd
  | 0 => []
  | k + 1 => if ((sinceTo us ds most k).length : Int) < most ∧ lk ds (up us k).dr < (up us k).dn then sinceTo us ds most k ++ [up us k] else sinceTo us ds most k
theorem since_yes {us : List Upd} {ds : List (Int × Int)} {most : Int} {k : Nat} (h : ((sinceTo us ds most k).length : Int) < most ∧ lk ds (up us k).dr < (up us k).dn) : sinceTo us ds most (k + 1) = sinceTo us ds most k ++ [up us k] := if_pos h
theorem since_no {us : List Upd} {ds : List (Int × Int)} {most : Int} {k : Nat} (h : ¬ (((sinceTo us ds most k).length : Int) < most ∧ lk ds (up us k).dr < (up us k).dn)) : sinceTo us ds most (k + 1) = sinceTo us ds most k := if_neg h
theorem since_len (us : List Upd) (ds : List (Int × Int)) (most : Int) : ∀ k, (sinceTo us ds most k).length ≤ k
  | 0 => Nat.le_refl _
  | k + 1 => by
    have := since_len us ds most k
    by_cases h : ((sinceTo us ds most k).length : Int) < most ∧ lk ds (up us k).dr < (up us k).dn
    · rw [since_yes h]; simp; omega
    · rw [since_no h]; omega
theorem since_full {us : List Upd} {ds : List (Int × Int)} {most : Int} {k : Nat} (h : most ≤ ((sinceTo us ds most k).length : Int)) : ∀ j, sinceTo us ds most (k + j) = sinceTo us ds most k
  | 0 => rfl
  | j + 1 => by
    have ih := since_full h j
    show sinceTo us ds most (k + j + 1) = _
    rw [since_no (by rw [ih]; omega), ih]
theorem since_end {us : List Upd} {ds : List (Int × Int)} {most : Int} {k n : Nat} (h : most ≤ ((sinceTo us ds most k).length : Int)) (hk : k ≤ n) : sinceTo us ds most n = sinceTo us ds most k := by
  have := since_full h (n - k)
  rwa [show k + (n - k) = n from by omega] at this
theorem since_mem {us : List Upd} {ds : List (Int × Int)} {most : Int} : ∀ (k : Nat) (x : Upd), x ∈ sinceTo us ds most k → ∃ j, j < k ∧ x = up us j
  | 0, x, h => by cases h
  | k + 1, x, h => by
    by_cases q : ((sinceTo us ds most k).length : Int) < most ∧ lk ds (up us k).dr < (up us k).dn
    · rw [since_yes q] at h
      rcases List.mem_append.1 h with h | h
      · obtain ⟨j, hj, e⟩ := since_mem k x h; exact ⟨j, by omega, e⟩
      · simp at h; exact ⟨k, by omega, h⟩
    · rw [since_no q] at h
      obtain ⟨j, hj, e⟩ := since_mem k x h; exact ⟨j, by omega, e⟩
def sinceOk (us : List Upd) (ds : List (Int × Int)) (most : Int) : Bool := setOk us && (vecOk ds && inB most 1 60)
def sinceL (us : List Upd) (ds : List (Int × Int)) (most : Int) : List Upd := if sinceOk us ds most = true then sinceTo us ds most us.length else []
theorem sinceL_len (us : List Upd) (ds : List (Int × Int)) (most : Int) : (sinceL us ds most).length ≤ us.length := by
  unfold sinceL; split
  · exact since_len _ _ _ _
  · simp
theorem up_mem {us : List Upd} {i : Nat} (h : i < us.length) : up us i ∈ us := by
  unfold up; simp [List.getD, h]
theorem sinceL_txt {us : List Upd} {ds : List (Int × Int)} {most : Int} {b : Nat} (h : ∀ i, i < us.length → (up us i).s.size ≤ b) : ∀ i, i < (sinceL us ds most).length → (up (sinceL us ds most) i).s.size ≤ b := by
  intro i hi
  have hm := up_mem hi
  unfold sinceL at hm hi ⊢
  by_cases q : sinceOk us ds most = true
  · rw [if_pos q] at hm ⊢
    obtain ⟨j, hj, e⟩ := since_mem _ _ hm
    rw [e]; exact h j hj
  · rw [if_neg q] at hi; simp at hi
theorem toList_len (s : ByteArray) : s.toList.length = s.size := by
  have key : ∀ (n i : Nat) (r : List UInt8), s.size - i = n → (ByteArray.toList.loop s i r).length = r.length + n := by
    intro n
    induction n with
    | zero => intro i r h; unfold ByteArray.toList.loop; rw [if_neg (by omega)]; simp
    | succ n ih => intro i r h; unfold ByteArray.toList.loop; rw [if_pos (by omega), ih (i + 1) _ (by omega)]; simp; omega
  have := key s.size 0 [] (by omega)
  simpa [ByteArray.toList] using this
theorem ok_txt {u : Upd} (h : okU u = true) : u.s.size ≤ 12 := by
  unfold okU updB kindB at h
  rw [Bool.and_eq_true] at h
  have h2 := h.2
  by_cases k1 : u.k = 1
  · rw [if_pos k1] at h2
    simp [spanB, nameB] at h2
    exact h2.1.1.1.2.1.2
  · rw [if_neg k1] at h2
    have key : zeroB u.id u.pa u.s u.st u.en = true → u.s.size ≤ 12 := by
      intro hz
      simp [zeroB] at hz
      have h3 := toList_len u.s
      rw [hz.1.1.2] at h3
      simp at h3
      omega
    by_cases k2 : u.k = 2
    · rw [if_pos k2] at h2; simp at h2; exact key h2.1
    · rw [if_neg k2] at h2
      by_cases k3 : u.k = 3
      · rw [if_pos k3] at h2; simp at h2; exact key h2.1
      · rw [if_neg k3] at h2; cases h2
end M1
