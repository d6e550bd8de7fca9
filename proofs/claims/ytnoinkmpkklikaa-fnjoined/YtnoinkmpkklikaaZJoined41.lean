/-
  Plain mathematics of a right set and its vector (no program): of each region all from the first on.
-/
import Derived.Test.YtnoinkmpkklikaaZJoined10
import Derived.Test.YtnoinkmpkklikaaZJoined09
namespace M1

/-- Of a right set each update is the next one of its region. -/
theorem next_dn {us : List Upd} (h : ∀ j, j < us.length → okAt us j = true) {k : Nat} (hk : k < us.length) : (up us k).dn = lastN us k (up us k).dr + 1 := by
  have h1 := h k hk
  unfold okAt at h1
  rw [Bool.and_eq_true] at h1
  cases k with
  | zero =>
    have h2 := h1.2
    simp at h2
    rw [h2]; rfl
  | succ k =>
    have h2 : fol (up us k) (up us (k + 1)) = true := by simpa using h1.2
    unfold fol at h2
    by_cases e : (up us (k + 1)).dr = (up us k).dr
    · rw [if_pos e] at h2
      rw [Bool.and_eq_true] at h2
      have h3 : (up us (k + 1)).dn = (up us k).dn + 1 := of_decide_eq_true h2.1
      rw [h3, lastN_succ, if_pos e.symm]
    · rw [if_neg e] at h2
      rw [Bool.and_eq_true] at h2
      have h3 : (up us (k + 1)).dn = 1 := of_decide_eq_true h2.2
      have h4 : (up us k).dr < (up us (k + 1)).dr := of_decide_eq_true h2.1
      have h5 : lastN us (k + 1) (up us (k + 1)).dr = 0 := lastN_none _ fun j hj => by
        have := ok_mono h (i := j) k (by omega) (by omega)
        omega
      rw [h3, h5]; rfl

theorem lastN_bd {us : List Upd} (h : ∀ j, j < us.length → okAt us j = true) (r : Int) : ∀ k, k ≤ us.length → 0 ≤ lastN us k r ∧ lastN us k r ≤ 1000000
  | 0, _ => by simp [lastN]
  | k + 1, hk => by
    have ih := lastN_bd h r k (by omega)
    have hr := ok_rg h (show k < us.length by omega)
    rw [lastN_succ]
    by_cases e : (up us k).dr = r
    · rw [if_pos e]; omega
    · rw [if_neg e]; exact ih

theorem lastN_ge {us : List Upd} (h : ∀ j, j < us.length → okAt us j = true) {j : Nat} : ∀ k, j < k → k ≤ us.length → (up us j).dn ≤ lastN us k (up us j).dr
  | 0, hj, _ => absurd hj (Nat.not_lt_zero _)
  | k + 1, hj, hk => by
    rw [lastN_succ]
    by_cases e : (up us k).dr = (up us j).dr
    · rw [if_pos e]
      by_cases ej : j = k
      · rw [ej]; exact Int.le_refl _
      · have ih := lastN_ge h (j := j) k (by omega) (by omega)
        have := next_dn h (show k < us.length by omega)
        rw [e] at this
        omega
    · rw [if_neg e]
      have ej : ¬ j = k := fun ej => e (by rw [ej])
      exact lastN_ge h k (by omega) (by omega)

/-- f 1 + .. + f m. -/
def sumF (f : Int → Int) : Nat → Int
  | 0 => 0
  | m + 1 => sumF f m + f (m + 1)
theorem sumF_congr {f g : Int → Int} : ∀ m : Nat, (∀ r : Int, 1 ≤ r → r ≤ m → f r = g r) → sumF f m = sumF g m
  | 0, _ => rfl
  | m + 1, h => by
    unfold sumF
    rw [sumF_congr m fun r h1 h2 => h r h1 (by omega), h (m + 1) (by omega) (by omega)]
theorem sumF_put {f g : Int → Int} {r v : Int} (hg : ∀ x, g x = if r = x then v else f x) : ∀ m : Nat, 1 ≤ r → r ≤ m → sumF g m = sumF f m + (v - f r)
  | 0, h1, h2 => by omega
  | m + 1, h1, h2 => by
    unfold sumF
    by_cases e : r = m + 1
    · have : sumF g m = sumF f m := sumF_congr m fun x h3 h4 => by rw [hg, if_neg (by omega)]
      rw [this, hg, if_pos e, e]; omega
    · rw [sumF_put hg m h1 (by omega), hg (m + 1), if_neg e]; omega
theorem sum_len {us : List Upd} (h : ∀ j, j < us.length → okAt us j = true) : ∀ k, k ≤ us.length → sumF (lastN us k) 5 = k
  | 0, _ => by simp [sumF, lastN]
  | k + 1, hk => by
    have ih := sum_len h k (by omega)
    have hr := ok_rg h (show k < us.length by omega)
    rw [sumF_put (f := lastN us k) (r := (up us k).dr) (v := (up us k).dn) (fun x => lastN_succ us k x) 5 hr.1 hr.2.1, ih, next_dn h (show k < us.length by omega)]
    omega

/-- The first k numbers of a vector, summed. -/
def sumN (ds : List (Int × Int)) : Nat → Int
  | 0 => 0
  | k + 1 => sumN ds k + nm ds k
theorem sumN_app {ds : List (Int × Int)} {d : Int × Int} : ∀ k, k ≤ ds.length → sumN (ds ++ [d]) k = sumN ds k
  | 0, _ => rfl
  | k + 1, h => by
    unfold sumN
    rw [sumN_app k (by omega), (rg_app (show k < ds.length by omega)).2]
theorem sumN_dlTo (f : Int → Int) (hf : ∀ r, 0 ≤ f r) : ∀ m, sumN (dlTo f m) (dlTo f m).length = sumF f m
  | 0 => rfl
  | m + 1 => by
    have ih := sumN_dlTo f hf m
    by_cases h : 0 < f (m + 1)
    · rw [dlTo_yes h]
      simp only [List.length_append, List.length_cons, List.length_nil, Nat.zero_add]
      unfold sumF
      show sumN (dlTo f m ++ [_]) (dlTo f m).length + _ = _
      rw [sumN_app _ (Nat.le_refl _), ih, (rg_last _ _).2]
    · rw [dlTo_no h, ih]
      have := hf (m + 1)
      show sumF f m = sumF f m + f (m + 1)
      omega
theorem sumN_vec {us : List Upd} (h : ∀ j, j < us.length → okAt us j = true) : sumN (vecU us) (vecU us).length = us.length := by
  unfold vecU
  rw [sumN_dlTo]
  · exact sum_len h _ (Nat.le_refl _)
  · exact fun r => (lastN_bd h r _ (Nat.le_refl _)).1
theorem vecU_ok {us : List Upd} (h : ∀ j, j < us.length → okAt us j = true) : vecOk (vecU us) = true :=
  dlTo_ok (fun r => (lastN_bd h r _ (Nat.le_refl _)).2) 5 (Nat.le_refl _)
theorem vecU_lk {us : List Upd} (h : ∀ j, j < us.length → okAt us j = true) {r : Int} (h1 : 1 ≤ r) (h5 : r ≤ 5) : lk (vecU us) r = lastN us us.length r := by
  unfold vecU
  rw [lk_dlTo]
  have := (lastN_bd h r _ (Nat.le_refl us.length)).1
  by_cases e : 0 < lastN us us.length r
  · rw [if_pos ⟨h1, h5, e⟩]
  · rw [if_neg (fun q => e q.2.2)]; omega
theorem vecU_ge {us : List Upd} (h : ∀ j, j < us.length → okAt us j = true) {j : Nat} (hj : j < us.length) : (up us j).dn ≤ lk (vecU us) (up us j).dr := by
  have hr := ok_rg h hj
  rw [vecU_lk h hr.1 hr.2.1]
  exact lastN_ge h _ hj (Nat.le_refl _)
theorem sumN_bd {ds : List (Int × Int)} (h : vecOk ds = true) : ∀ k, k ≤ ds.length → 0 ≤ sumN ds k ∧ sumN ds k ≤ k * 1000000
  | 0, _ => by simp [sumN]
  | k + 1, hk => by
    have ih := sumN_bd h k (by omega)
    have hd := dotOk_true (vok_dot (vecOk_all h k (by omega)))
    unfold sumN
    omega
theorem ok_dahead {us : List Upd} {j : Nat} (h : okAt us (j + 1) = true) : dahead (up us j).dr (up us j).dn (up us (j + 1)).dr (up us (j + 1)).dn = true := by
  unfold okAt at h
  rw [Bool.and_eq_true] at h
  have h2 : fol (up us j) (up us (j + 1)) = true := by simpa using h.2
  unfold fol at h2
  unfold dahead
  by_cases e : (up us (j + 1)).dr = (up us j).dr
  · rw [if_pos e, Bool.and_eq_true] at h2
    have := of_decide_eq_true h2.1
    simp [e]; omega
  · rw [if_neg e, Bool.and_eq_true] at h2
    have := of_decide_eq_true h2.1
    simp; omega
end M1
