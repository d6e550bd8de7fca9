/-
  Plain mathematics of joined vectors (no program).
-/
import Derived.Test.YtjgcjopijblpkaaDoorZSegmentOf01
namespace M1

theorem rg_app {l : List (Int × Int)} {d : Int × Int} {i : Nat} (h : i < l.length) : rg (l ++ [d]) i = rg l i ∧ nm (l ++ [d]) i = nm l i := by
  simp [rg, nm, List.getD, List.getElem?_append_left h]
theorem rg_last (l : List (Int × Int)) (d : Int × Int) : rg (l ++ [d]) l.length = d.1 ∧ nm (l ++ [d]) l.length = d.2 := by
  simp [rg, nm, List.getD]
theorem lkTo_app {l : List (Int × Int)} {d : Int × Int} {r : Int} : ∀ k, k ≤ l.length → lkTo (l ++ [d]) k r = lkTo l k r
  | 0, _ => rfl
  | k + 1, h => by
    have := rg_app (d := d) (show k < l.length by omega)
    rw [lkTo_succ, lkTo_succ, this.1, this.2, lkTo_app k (by omega)]
theorem lk_snoc (l : List (Int × Int)) (d : Int × Int) (r : Int) : lk (l ++ [d]) r = if d.1 = r then d.2 else lk l r := by
  unfold lk
  rw [show (l ++ [d]).length = l.length + 1 from by simp, lkTo_succ, (rg_last l d).1, (rg_last l d).2, lkTo_app _ (Nat.le_refl _)]
theorem lk_dlTo (f : Int → Int) : ∀ (k : Nat) (r : Int), lk (dlTo f k) r = if 1 ≤ r ∧ r ≤ k ∧ 0 < f r then f r else 0
  | 0, r => by rw [if_neg (by omega)]; rfl
  | k + 1, r => by
    by_cases h : 0 < f (k + 1)
    · rw [dlTo_yes h, lk_snoc, lk_dlTo f k r]
      by_cases e : ((k : Int) + 1) = r
      · subst e; rw [if_pos rfl, if_pos ⟨by omega, by omega, h⟩]
      · rw [if_neg e]
        by_cases q : 1 ≤ r ∧ r ≤ k ∧ 0 < f r
        · rw [if_pos q, if_pos ⟨q.1, by omega, q.2.2⟩]
        · rw [if_neg q, if_neg (fun q2 => q ⟨q2.1, by omega, q2.2.2⟩)]
    · rw [dlTo_no h, lk_dlTo f k r]
      by_cases q : 1 ≤ r ∧ r ≤ k ∧ 0 < f r
      · rw [if_pos q, if_pos ⟨q.1, by omega, q.2.2⟩]
      · rw [if_neg q, if_neg (fun q2 => q ⟨q2.1, by
          have : r ≠ (k : Int) + 1 := fun e => h (by rw [← e]; exact q2.2.2)
          omega, q2.2.2⟩)]
theorem vecOk_snoc {l : List (Int × Int)} {d : Int × Int} (h : vecOk l = true) (hd : dotOk d.1 d.2 = true) (hr : ∀ j, j < l.length → rg l j < d.1) : vecOk (l ++ [d]) = true := by
  refine vecOk_yes fun j hj => ?_
  simp at hj
  by_cases e : j = l.length
  · subst e
    unfold vokAt
    rw [(rg_last l d).1, (rg_last l d).2, hd]
    by_cases e0 : l.length = 0
    · simp [e0]
    · have h1 := hr (l.length - 1) (by omega)
      rw [(rg_app (d := d) (show l.length - 1 < l.length by omega)).1]
      simp [h1]
  · have hj' : j < l.length := by omega
    have h1 := vecOk_all h j hj'
    unfold vokAt at h1 ⊢
    rw [(rg_app (d := d) hj').1, (rg_app (d := d) hj').2]
    by_cases e0 : j = 0
    · subst e0; simpa using h1
    · rw [(rg_app (d := d) (show j - 1 < l.length by omega)).1]; exact h1
theorem dlTo_rg (f : Int → Int) : ∀ (k : Nat) (j : Nat), j < (dlTo f k).length → rg (dlTo f k) j ≤ k
  | 0, j, h => by simp [dlTo] at h
  | k + 1, j, h => by
    by_cases q : 0 < f (k + 1)
    · rw [dlTo_yes q] at h ⊢
      simp at h
      by_cases e : j = (dlTo f k).length
      · rw [e, (rg_last _ _).1]; simp
      · rw [(rg_app (by omega)).1]; have := dlTo_rg f k j (by omega); omega
    · rw [dlTo_no q] at h ⊢
      have := dlTo_rg f k j h; omega
theorem dlTo_ok {f : Int → Int} (hf : ∀ r : Int, f r ≤ 1000000) : ∀ k : Nat, k ≤ 5 → vecOk (dlTo f k) = true
  | 0, _ => rfl
  | k + 1, h => by
    by_cases q : 0 < f (k + 1)
    · rw [dlTo_yes q]
      refine vecOk_snoc (dlTo_ok hf k (by omega)) ?_ (fun j hj => by have := dlTo_rg f k j hj; show _ < (k : Int) + 1; omega)
      have := hf ((k : Int) + 1)
      simp [dotOk, inB]; omega
    · rw [dlTo_no q]; exact dlTo_ok hf k (by omega)

theorem joinL_eq {a b : List (Int × Int)} (ha : vecOk a = true) (hb : vecOk b = true) : joinL a b = dlTo (fun r => max (lk a r) (lk b r)) 5 := by
  unfold joinL; rw [if_pos ⟨ha, hb⟩]
theorem joinL_ok {a b : List (Int × Int)} (ha : vecOk a = true) (hb : vecOk b = true) : vecOk (joinL a b) = true := by
  rw [joinL_eq ha hb]
  exact dlTo_ok (fun r => by have h1 := lk_bd ha r; have h2 := lk_bd hb r; show max (lk a r) (lk b r) ≤ _; omega) 5 (by omega)
theorem joinL_lk {a b : List (Int × Int)} (ha : vecOk a = true) (hb : vecOk b = true) (r : Int) : lk (joinL a b) r = max (lk a r) (lk b r) := by
  rw [joinL_eq ha hb, lk_dlTo]
  have h1 := lk_bd ha r
  have h2 := lk_bd hb r
  by_cases q : 1 ≤ r ∧ r ≤ ((5 : Nat) : Int) ∧ 0 < max (lk a r) (lk b r)
  · rw [if_pos q]
  · rw [if_neg q]
    by_cases hr : 1 ≤ r ∧ r ≤ 5
    · have : ¬ 0 < max (lk a r) (lk b r) := fun h => q ⟨hr.1, by have := hr.2; omega, h⟩
      omega
    · rw [lk_out ha (by omega), lk_out hb (by omega)]; rfl
theorem joinL_comm (a b : List (Int × Int)) : joinL b a = joinL a b := by
  unfold joinL
  by_cases h : vecOk a = true ∧ vecOk b = true
  · rw [if_pos h, if_pos h.symm]
    exact dlTo_congr 5 (fun r _ _ => by omega)
  · rw [if_neg h, if_neg (fun k => h k.symm)]
theorem joinL_again {a b : List (Int × Int)} (ha : vecOk a = true) (hb : vecOk b = true) : joinL (joinL a b) a = joinL a b := by
  rw [joinL_eq (joinL_ok ha hb) ha]
  conv => rhs; rw [joinL_eq ha hb]
  exact dlTo_congr 5 (fun r _ _ => by rw [joinL_lk ha hb]; omega)
theorem joinL_assoc {a b c : List (Int × Int)} (ha : vecOk a = true) (hb : vecOk b = true) (hc : vecOk c = true) : joinL (joinL a b) c = joinL a (joinL b c) := by
  rw [joinL_eq (joinL_ok ha hb) hc, joinL_eq ha (joinL_ok hb hc)]
  exact dlTo_congr 5 (fun r _ _ => by rw [joinL_lk ha hb, joinL_lk hb hc]; omega)
theorem cov_join {a b : List (Int × Int)} (ha : vecOk a = true) (hb : vecOk b = true) : covB (joinL a b) a = true ∧ covB (joinL a b) b = true := by
  constructor
  · rw [cov_iff (joinL_ok ha hb) ha]; intro r _ _; rw [joinL_lk ha hb]; omega
  · rw [cov_iff (joinL_ok ha hb) hb]; intro r _ _; rw [joinL_lk ha hb]; omega
theorem cov_both {a b c : List (Int × Int)} (ha : vecOk a = true) (hb : vecOk b = true) (hc : vecOk c = true) : covB c (joinL a b) = (covB c a && covB c b) := by
  rw [Bool.eq_iff_iff, Bool.and_eq_true, cov_iff hc (joinL_ok ha hb), cov_iff hc ha, cov_iff hc hb]
  constructor
  · intro h
    exact ⟨fun r h1 h2 => by have := h r h1 h2; rw [joinL_lk ha hb] at this; omega, fun r h1 h2 => by have := h r h1 h2; rw [joinL_lk ha hb] at this; omega⟩
  · intro ⟨h1, h2⟩ r h3 h4
    have a1 := h1 r h3 h4
    have a2 := h2 r h3 h4
    rw [joinL_lk ha hb]; omega
end M1
