/-
  Plain mathematics of the vector of a set (no program).
-/
import Derived.Test.YtjgcjopijblpkaaDoorZSegmentOf04
import Derived.Test.YtjgcjopijblpkaaDoorZSegmentOf27
namespace M1

/-- The last number of region r in the first k updates (0: none). -/
def lastN (us : List Upd) : Nat → Int → Int
  | 0, _ => 0
  | k + 1, r => if (up us k).dr = r then (up us k).dn else lastN us k r
theorem lastN_succ (us : List Upd) (k : Nat) (r : Int) : lastN us (k + 1) r = if (up us k).dr = r then (up us k).dn else lastN us k r := rfl
theorem lastN_none {us : List Upd} {r : Int} : ∀ k, (∀ j, j < k → ¬ (up us j).dr = r) → lastN us k r = 0
  | 0, _ => rfl
  | k + 1, h => by rw [lastN_succ, if_neg (h k (by omega))]; exact lastN_none k (fun j hj => h j (by omega))
theorem lastN_at {us : List Upd} {j : Nat} : ∀ k, j < k → (∀ i, j < i → i < k → ¬ (up us i).dr = (up us j).dr) → lastN us k (up us j).dr = (up us j).dn
  | 0, hj, _ => absurd hj (Nat.not_lt_zero _)
  | k + 1, hj, h => by
    rw [lastN_succ]
    by_cases e : j = k
    · rw [e, if_pos rfl]
    · rw [if_neg (h k (by omega) (by omega))]; exact lastN_at k (by omega) (fun i h1 h2 => h i h1 (by omega))

/-- The vector of a set. -/
def vecU (us : List Upd) : List (Int × Int) := dlTo (lastN us us.length) 5
def vectorOf (us : List Upd) : List (Int × Int) := if setOk us = true then vecU us else []
theorem vectorOf_len (us : List Upd) : (vectorOf us).length ≤ 5 := by
  unfold vectorOf; split
  · exact dlTo_len _ 5
  · simp

theorem fol_le {a b : Upd} (h : fol a b = true) : a.dr ≤ b.dr := by
  unfold fol at h
  by_cases e : b.dr = a.dr
  · omega
  · rw [if_neg e] at h
    simp at h; omega
theorem ok_step {us : List Upd} {j : Nat} (h : okAt us (j + 1) = true) : (up us j).dr ≤ (up us (j + 1)).dr := by
  unfold okAt at h
  simp at h
  exact fol_le h.2
theorem ok_mono {us : List Upd} (h : ∀ j, j < us.length → okAt us j = true) {i : Nat} : ∀ j, i ≤ j → j < us.length → (up us i).dr ≤ (up us j).dr
  | 0, hij, _ => by have : i = 0 := by omega
                    rw [this]; exact Int.le_refl _
  | j + 1, hij, hj => by
    by_cases e : i = j + 1
    · rw [e]; exact Int.le_refl _
    · have h1 := ok_mono h (i := i) j (by omega) (by omega)
      have h2 := ok_step (h (j + 1) hj)
      omega
theorem ok_rg {us : List Upd} (h : ∀ j, j < us.length → okAt us j = true) {j : Nat} (hj : j < us.length) : 1 ≤ (up us j).dr ∧ (up us j).dr ≤ 5 ∧ 1 ≤ (up us j).dn ∧ (up us j).dn ≤ 1000000 := okU_dot (okAt_ok (h j hj))

theorem dl_gap {f : Int → Int} {a : Nat} : ∀ b : Nat, a ≤ b → (∀ r : Int, (a : Int) < r → r ≤ b → f r = 0) → dlTo f b = dlTo f a
  | 0, hab, _ => by have : a = 0 := by omega
                    rw [this]
  | b + 1, hab, h => by
    by_cases e : a = b + 1
    · rw [e]
    · rw [dlTo_no (by rw [h ((b : Int) + 1) (by omega) (by omega)]; omega)]
      exact dl_gap b (by omega) (fun r h1 h2 => h r h1 (by omega))

/-- Up to which region the dots have been told when k updates are over. -/
def cl (us : List Upd) (k : Nat) : Nat :=
  if k = 0 then 0 else if k = us.length ∨ ¬ (up us k).dr = (up us (k - 1)).dr then (up us (k - 1)).dr.toNat else (up us (k - 1)).dr.toNat - 1

theorem cl_gap {us : List Upd} (h : ∀ j, j < us.length → okAt us j = true) {k : Nat} (hk : k < us.length) : dlTo (lastN us us.length) ((up us k).dr.toNat - 1) = dlTo (lastN us us.length) (cl us k) := by
  have hk1 := ok_rg h hk
  unfold cl
  by_cases e0 : k = 0
  · rw [if_pos e0]
    refine dl_gap _ (by omega) (fun r h1 h2 => lastN_none _ (fun j hj e => ?_))
    have := ok_mono h (i := k) j (by omega) hj
    omega
  · rw [if_neg e0]
    have hp := ok_rg h (show k - 1 < us.length by omega)
    have hm := ok_mono h (i := k - 1) k (by omega) hk
    by_cases e1 : (up us k).dr = (up us (k - 1)).dr
    · rw [if_neg (by intro q; rcases q with q | q; · omega
                     · exact q e1), e1]
    · rw [if_pos (Or.inr e1)]
      refine dl_gap _ (by omega) (fun r h1 h2 => lastN_none _ (fun j hj e => ?_))
      rcases Nat.lt_or_ge j k with hjk | hjk
      · have := ok_mono h (i := j) (k - 1) (by omega) (by omega); omega
      · have := ok_mono h (i := k) j hjk hj; omega

theorem cl_yes {us : List Upd} (h : ∀ j, j < us.length → okAt us j = true) {k : Nat} (hk : k < us.length) (hc : k + 1 = us.length ∨ ¬ (up us (k + 1)).dr = (up us k).dr) :
    dlTo (lastN us us.length) (cl us (k + 1)) = dlTo (lastN us us.length) (cl us k) ++ [((up us k).dr, (up us k).dn)] := by
  have hk1 := ok_rg h hk
  have e1 : cl us (k + 1) = (up us k).dr.toNat := by
    unfold cl; rw [if_neg (by omega)]; simp only [Nat.add_sub_cancel]; rw [if_pos hc]
  have e2 : lastN us us.length (up us k).dr = (up us k).dn := by
    refine lastN_at _ hk (fun i h1 h2 e => ?_)
    rcases hc with hc | hc
    · omega
    · have q1 := ok_mono h (i := k) (k + 1) (by omega) (by omega)
      have q2 := ok_mono h (i := k + 1) i (by omega) h2
      omega
  rw [e1, ← cl_gap h hk]
  obtain ⟨q, hq⟩ : ∃ q : Nat, (up us k).dr.toNat = q + 1 := ⟨(up us k).dr.toNat - 1, by omega⟩
  have hq2 : (q : Int) + 1 = (up us k).dr := by omega
  rw [hq, Nat.add_sub_cancel, dl_step _ q _ hq2 (by rw [e2]; omega), e2]

theorem cl_no {us : List Upd} (h : ∀ j, j < us.length → okAt us j = true) {k : Nat} (hk : k < us.length) (hc : ¬ (k + 1 = us.length ∨ ¬ (up us (k + 1)).dr = (up us k).dr)) :
    dlTo (lastN us us.length) (cl us (k + 1)) = dlTo (lastN us us.length) (cl us k) := by
  have e1 : cl us (k + 1) = (up us k).dr.toNat - 1 := by
    unfold cl; rw [if_neg (by omega)]; simp only [Nat.add_sub_cancel]; rw [if_neg hc]
  rw [e1, cl_gap h hk]

theorem cl_end {us : List Upd} (h : ∀ j, j < us.length → okAt us j = true) : dlTo (lastN us us.length) (cl us us.length) = vecU us := by
  unfold vecU
  by_cases e0 : us.length = 0
  · have : cl us us.length = 0 := by unfold cl; rw [if_pos e0]
    rw [this]
    exact (dl_gap 5 (by omega) (fun r h1 h2 => lastN_none _ (fun j hj => by omega))).symm
  · have hk1 := ok_rg h (show us.length - 1 < us.length by omega)
    have : cl us us.length = (up us (us.length - 1)).dr.toNat := by unfold cl; rw [if_neg e0, if_pos (Or.inl rfl)]
    rw [this]
    refine (dl_gap 5 (by omega) (fun r h1 h2 => lastN_none _ (fun j hj e => ?_))).symm
    have := ok_mono h (i := j) (us.length - 1) (by omega) (by omega)
    omega
end M1
