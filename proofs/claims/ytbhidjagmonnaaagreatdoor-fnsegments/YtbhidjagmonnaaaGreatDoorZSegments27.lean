/-
  Texts of one proof, joined: Math14a, Math6, Math7.
-/
import Derived.Test.YtbhidjagmonnaaaGreatDoorZSegments04
import Derived.Test.YtbhidjagmonnaaaGreatDoorZSegments03
namespace M1
def allR (ys : List Upd) : Bool := (List.range ys.length).all fun j => okU (up ys j)
theorem allR_yes {ys : List Upd} (h : ∀ j, j < ys.length → okU (up ys j) = true) : allR ys = true := by simp [allR]; exact h
theorem allR_no {ys : List Upd} {j : Nat} (hj : j < ys.length) (h : okU (up ys j) = false) : allR ys = false := by simp [allR]; exact ⟨j, hj, h⟩
theorem allR_all {ys : List Upd} (h : allR ys = true) : ∀ j, j < ys.length → okU (up ys j) = true := by simp [allR] at h; exact h
end M1

namespace M1

theorem rg_app {l : List (Int × Int)} {d : Int × Int} {i : Nat} (h : i < l.length) : rg (l ++ [d]) i = rg l i ∧ nm (l ++ [d]) i = nm l i := by
  simp [rg, nm, List.getD, List.getElem?_append_left h]
theorem rg_last (l : List (Int × Int)) (d : Int × Int) : rg (l ++ [d]) l.length = d.1 ∧ nm (l ++ [d]) l.length = d.2 := by
  simp [rg, nm, List.getD]
theorem lkTo_app {l : List (Int × Int)} {d : Int × Int} {r : Int} : ∀ k, k ≤ l.length → lkTo (l ++ [d]) k r = lkTo l k r
  | 0, _ => rfl
  | k + 1, h => by
    have := rg_app (d := d) (show k < l.length by omega)
    rw [lkTo_succ, lkTo_succ, this.1, this.2, lkTo_app k (by omega)]
theorem lk_snoc (l : List (Int × Int)) (d : Int × Int) (r : Int) : lk (l ++ [d]) r = if d.1 = r then d.2 else lk l r := by
  unfold lk
  rw [show (l ++ [d]).length = l.length + 1 from by simp, lkTo_succ, (rg_last l d).1, (rg_last l d).2, lkTo_app _ (Nat.le_refl _)]
theorem lk_dlTo (f : Int → Int) : ∀ (k : Nat) (r : Int), lk (dlTo f k) r = if 1 ≤ r ∧ r ≤ k ∧ 0 < f r then f r else 0
  | 0, r => by rw [if_neg (by omega)]; rfl
  | k + 1, r => by
    by_cases h : 0 < f (k + 1)
    · rw [dlTo_yes h, lk_snoc, lk_dlTo f k r]
      by_cases e : ((k : Int) + 1) = r
      · subst e; rw [if_pos rfl, if_pos ⟨by omega, by omega, h⟩]
      · rw [if_neg e]
        by_cases q : 1 ≤ r ∧ r ≤ k ∧ 0 < f r
        · rw [if_pos q, if_pos ⟨q.1, by omega, q.2.2⟩]
        · rw [if_neg q, if_neg (fun q2 => q ⟨q2.1, by omega, q2.2.2⟩)]
    · rw [dlTo_no h, lk_dlTo f k r]
      by_cases q : 1 ≤ r ∧ r ≤ k ∧ 0 < f r
      · rw [if_pos q, if_pos ⟨q.1, by omega, q.2.2⟩]
      · rw [if_neg q, if_neg (fun q2 => q ⟨q2.1, by
          have : r ≠ (k : Int) + 1 := fun e => h (by rw [← e]; exact q2.2.2)
          omega, q2.2.2⟩)]
theorem vecOk_snoc {l : List (Int × Int)} {d : Int × Int} (h : vecOk l = true) (hd : dotOk d.1 d.2 = true) (hr : ∀ j, j < l.length → rg l j < d.1) : vecOk (l ++ [d]) = true := by
  refine vecOk_yes fun j hj => ?_
  simp at hj
  by_cases e : j = l.length
  · subst e
    unfold vokAt
    rw [(rg_last l d).1, (rg_last l d).2, hd]
    by_cases e0 : l.length = 0
    · simp [e0]
    · have h1 := hr (l.length - 1) (by omega)
      rw [(rg_app (d := d) (show l.length - 1 < l.length by omega)).1]
      simp [h1]
  · have hj' : j < l.length := by omega
    have h1 := vecOk_all h j hj'
    unfold vokAt at h1 ⊢
    rw [(rg_app (d := d) hj').1, (rg_app (d := d) hj').2]
    by_cases e0 : j = 0
    · subst e0; simpa using h1
    · rw [(rg_app (d := d) (show j - 1 < l.length by omega)).1]; exact h1
theorem dlTo_rg (f : Int → Int) : ∀ (k : Nat) (j : Nat), j < (dlTo f k).length → rg (dlTo f k) j ≤ k
  | 0, j, h => by simp [dlTo] at h
  | k + 1, j, h => by
    by_cases q : 0 < f (k + 1)
    · rw [dlTo_yes q] at h ⊢
      simp at h
      by_cases e : j = (dlTo f k).length
      · rw [e, (rg_last _ _).1]; simp
      · rw [(rg_app (by omega)).1]; have := dlTo_rg f k j (by omega); omega
    · rw [dlTo_no q] at h ⊢
      have := dlTo_rg f k j h; omega
theorem dlTo_ok {f : Int → Int} (hf : ∀ r : Int, f r ≤ 1000000) : ∀ k : Nat, k ≤ 5 → vecOk (dlTo f k) = true
  | 0, _ => rfl
  | k + 1, h => by
    by_cases q : 0 < f (k + 1)
    · rw [dlTo_yes q]
      refine vecOk_snoc (dlTo_ok hf k (by omega)) ?_ (fun j hj => by have := dlTo_rg f k j hj; show _ < (k : Int) + 1; omega)
      have := hf ((k : Int) + 1)
      simp [dotOk, inB]; omega
    · rw [dlTo_no q]; exact dlTo_ok hf k (by omega)

theorem joinL_eq {a b : List (Int × Int)} (ha : vecOk a = true) (hb : vecOk b = true) : joinL a b = dlTo (fun r => max (lk a r) (lk b r)) 5 := by
  unfold joinL; rw [if_pos ⟨ha, hb⟩]
theorem joinL_ok {a b : List (Int × Int)} (ha : vecOk a = true) (hb : vecOk b = true) : vecOk (joinL a b) = true := by
  rw [joinL_eq ha hb]
  exact dlTo_ok (fun r => by have h1 := lk_bd ha r; have h2 := lk_bd hb r; show max (lk a r) (lk b r) ≤ _; omega) 5 (by omega)
theorem joinL_lk {a b : List (Int × Int)} (ha : vecOk a = true) (hb : vecOk b = true) (r : Int) : lk (joinL a b) r = max (lk a r) (lk b r) := by
  rw [joinL_eq ha hb, lk_dlTo]
  have h1 := lk_bd ha r
  have h2 := lk_bd hb r
  by_cases q : 1 ≤ r ∧ r ≤ ((5 : Nat) : Int) ∧ 0 < max (lk a r) (lk b r)
  · rw [if_pos q]
  · rw [if_neg q]
    by_cases hr : 1 ≤ r ∧ r ≤ 5
    · have : ¬ 0 < max (lk a r) (lk b r) := fun h => q ⟨hr.1, by have := hr.2; omega, h⟩
      omega
    · rw [lk_out ha (by omega), lk_out hb (by omega)]; rfl
theorem joinL_comm (a b : List (Int × Int)) : joinL b a = joinL a b := by
  unfold joinL
  by_cases h : vecOk a = true ∧ vecOk b = true
  · rw [if_pos h, if_pos h.symm]
    exact dlTo_congr 5 (fun r _ _ => by omega)
  · rw [if_neg h, if_neg (fun k => h k.symm)]
theorem joinL_again {a b : List (Int × Int)} (ha : vecOk a = true) (hb : vecOk b = true) : joinL (joinL a b) a = joinL a b := by
  rw [joinL_eq (joinL_ok ha hb) ha]
  conv => rhs; rw [joinL_eq ha hb]
  exact dlTo_congr 5 (fun r _ _ => by rw [joinL_lk ha hb]; omega)
theorem joinL_assoc {a b c : List (Int × Int)} (ha : vecOk a = true) (hb : vecOk b = true) (hc : vecOk c = true) : joinL (joinL a b) c = joinL a (joinL b c) := by
  rw [joinL_eq (joinL_ok ha hb) hc, joinL_eq ha (joinL_ok hb hc)]
  exact dlTo_congr 5 (fun r _ _ => by rw [joinL_lk ha hb, joinL_lk hb hc]; omega)
theorem cov_join {a b : List (Int × Int)} (ha : vecOk a = true) (hb : vecOk b = true) : covB (joinL a b) a = true ∧ covB (joinL a b) b = true := by
  constructor
  · rw [cov_iff (joinL_ok ha hb) ha]; intro r _ _; rw [joinL_lk ha hb]; omega
  · rw [cov_iff (joinL_ok ha hb) hb]; intro r _ _; rw [joinL_lk ha hb]; omega
theorem cov_both {a b c : List (Int × Int)} (ha : vecOk a = true) (hb : vecOk b = true) (hc : vecOk c = true) : covB c (joinL a b) = (covB c a && covB c b) := by
  rw [Bool.eq_iff_iff, Bool.and_eq_true, cov_iff hc (joinL_ok ha hb), cov_iff hc ha, cov_iff hc hb]
  constructor
  · intro h
    exact ⟨fun r h1 h2 => by have := h r h1 h2; rw [joinL_lk ha hb] at this; omega, fun r h1 h2 => by have := h r h1 h2; rw [joinL_lk ha hb] at this; omega⟩
  · intro ⟨h1, h2⟩ r h3 h4
    have a1 := h1 r h3 h4
    have a2 := h2 r h3 h4
    rw [joinL_lk ha hb]; omega
end M1

namespace M1

/-- The last number of region r in the first k updates (0: none). -/
def lastN (us : List Upd) : Nat → Int → Int
  | 0, _ => 0
  | k + 1, r => if (up us k).dr = r then (up us k).dn else lastN us k r
theorem lastN_succ (us : List Upd) (k : Nat) (r : Int) : lastN us (k + 1) r = if (up us k).dr = r then (up us k).dn else lastN us k r := rfl
theorem lastN_none {us : List Upd} {r : Int} : ∀ k, (∀ j, j < k → ¬ (up us j).dr = r) → lastN us k r = 0
  | 0, _ => rfl
  | k + 1, h => by rw [lastN_succ, if_neg (h k (by omega))]; exact lastN_none k (fun j hj => h j (by omega))
theorem lastN_at {us : List Upd} {j : Nat} : ∀ k, j < k → (∀ i, j < i → i < k → ¬ (up us i).dr = (up us j).dr) → lastN us k (up us j).dr = (up us j).dn
  | 0, hj, _ => absurd hj (Nat.not_lt_zero _)
  | k + 1, hj, h => by
    rw [lastN_succ]
    by_cases e : j = k
    · rw [e, if_pos rfl]
    · rw [if_neg (h k (by omega) (by omega))]; exact lastN_at k (by omega) (fun i h1 h2 => h i h1 (by omega))

/-- The vector of a set. -/
def vecU (us : List Upd) : List (Int × Int) := dlTo (lastN us us.length) 5
def vectorOf (us : List Upd) : List (Int × Int) := if setOk us = true then vecU us else []
theorem vectorOf_len (us : List Upd) : (vectorOf us).length ≤ 5 := by
  unfold vectorOf; split
  · exact dlTo_len _ 5
  · simp

theorem fol_le {a b : Upd} (h : fol a b = true) : a.dr ≤ b.dr := by
  unfold fol at h
  by_cases e : b.dr = a.dr
  · omega
  · rw [if_neg e] at h
    simp at h; omega
theorem ok_step {us : List Upd} {j : Nat} (h : okAt us (j + 1) = true) : (up us j).dr ≤ (up us (j + 1)).dr := by
  unfold okAt at h
  simp at h
  exact fol_le h.2
theorem ok_mono {us : List Upd} (h : ∀ j, j < us.length → okAt us j = true) {i : Nat} : ∀ j, i ≤ j → j < us.length → (up us i).dr ≤ (up us j).dr
  | 0, hij, _ => by have : i = 0 := by omega
                    rw [this]; exact Int.le_refl _
  | j + 1, hij, hj => by
    by_cases e : i = j + 1
    · rw [e]; exact Int.le_refl _
    · have h1 := ok_mono h (i := i) j (by omega) (by omega)
      have h2 := ok_step (h (j + 1) hj)
      omega
theorem ok_rg {us : List Upd} (h : ∀ j, j < us.length → okAt us j = true) {j : Nat} (hj : j < us.length) : 1 ≤ (up us j).dr ∧ (up us j).dr ≤ 5 ∧ 1 ≤ (up us j).dn ∧ (up us j).dn ≤ 1000000 := okU_dot (okAt_ok (h j hj))

theorem dl_gap {f : Int → Int} {a : Nat} : ∀ b : Nat, a ≤ b → (∀ r : Int, (a : Int) < r → r ≤ b → f r = 0) → dlTo f b = dlTo f a
  | 0, hab, _ => by have : a = 0 := by omega
                    rw [this]
  | b + 1, hab, h => by
    by_cases e : a = b + 1
    · rw [e]
    · rw [dlTo_no (by rw [h ((b : Int) + 1) (by omega) (by omega)]; omega)]
      exact dl_gap b (by omega) (fun r h1 h2 => h r h1 (by omega))

/-- Up to which region the dots have been told when k updates are over. -/
def cl (us : List Upd) (k : Nat) : Nat :=
  if k = 0 then 0 else if k = us.length ∨ ¬ (up us k).dr = (up us (k - 1)).dr then (up us (k - 1)).dr.toNat else (up us (k - 1)).dr.toNat - 1

theorem cl_gap {us : List Upd} (h : ∀ j, j < us.length → okAt us j = true) {k : Nat} (hk : k < us.length) : dlTo (lastN us us.length) ((up us k).dr.toNat - 1) = dlTo (lastN us us.length) (cl us k) := by
  have hk1 := ok_rg h hk
  unfold cl
  by_cases e0 : k = 0
  · rw [if_pos e0]
    refine dl_gap _ (by omega) (fun r h1 h2 => lastN_none _ (fun j hj e => ?_))
    have := ok_mono h (i := k) j (by omega) hj
    omega
  · rw [if_neg e0]
    have hp := ok_rg h (show k - 1 < us.length by omega)
    have hm := ok_mono h (i := k - 1) k (by omega) hk
    by_cases e1 : (up us k).dr = (up us (k - 1)).dr
    · rw [if_neg (by intro q; rcases q with q | q; · omega
                     · exact q e1), e1]
    · rw [if_pos (Or.inr e1)]
      refine dl_gap _ (by omega) (fun r h1 h2 => lastN_none _ (fun j hj e => ?_))
      rcases Nat.lt_or_ge j k with hjk | hjk
      · have := ok_mono h (i := j) (k - 1) (by omega) (by omega); omega
      · have := ok_mono h (i := k) j hjk hj; omega

theorem cl_yes {us : List Upd} (h : ∀ j, j < us.length → okAt us j = true) {k : Nat} (hk : k < us.length) (hc : k + 1 = us.length ∨ ¬ (up us (k + 1)).dr = (up us k).dr) :
    dlTo (lastN us us.length) (cl us (k + 1)) = dlTo (lastN us us.length) (cl us k) ++ [((up us k).dr, (up us k).dn)] := by
  have hk1 := ok_rg h hk
  have e1 : cl us (k + 1) = (up us k).dr.toNat := by
    unfold cl; rw [if_neg (by omega)]; simp only [Nat.add_sub_cancel]; rw [if_pos hc]
  have e2 : lastN us us.length (up us k).dr = (up us k).dn := by
    refine lastN_at _ hk (fun i h1 h2 e => ?_)
    rcases hc with hc | hc
    · omega
    · have q1 := ok_mono h (i := k) (k + 1) (by omega) (by omega)
      have q2 := ok_mono h (i := k + 1) i (by omega) h2
      omega
  rw [e1, ← cl_gap h hk]
  obtain ⟨q, hq⟩ : ∃ q : Nat, (up us k).dr.toNat = q + 1 := ⟨(up us k).dr.toNat - 1, by omega⟩
  have hq2 : (q : Int) + 1 = (up us k).dr := by omega
  rw [hq, Nat.add_sub_cancel, dl_step _ q _ hq2 (by rw [e2]; omega), e2]

theorem cl_no {us : List Upd} (h : ∀ j, j < us.length → okAt us j = true) {k : Nat} (hk : k < us.length) (hc : ¬ (k + 1 = us.length ∨ ¬ (up us (k + 1)).dr = (up us k).dr)) :
    dlTo (lastN us us.length) (cl us (k + 1)) = dlTo (lastN us us.length) (cl us k) := by
  have e1 : cl us (k + 1) = (up us k).dr.toNat - 1 := by
    unfold cl; rw [if_neg (by omega)]; simp only [Nat.add_sub_cancel]; rw [if_neg hc]
  rw [e1, cl_gap h hk]

theorem cl_end {us : List Upd} (h : ∀ j, j < us.length → okAt us j = true) : dlTo (lastN us us.length) (cl us us.length) = vecU us := by
  unfold vecU
  by_cases e0 : us.length = 0
  · have : cl us us.length = 0 := by unfold cl; rw [if_pos e0]
    rw [this]
    exact (dl_gap 5 (by omega) (fun r h1 h2 => lastN_none _ (fun j hj => by omega))).symm
  · have hk1 := ok_rg h (show us.length - 1 < us.length by omega)
    have : cl us us.length = (up us (us.length - 1)).dr.toNat := by unfold cl; rw [if_neg e0, if_pos (Or.inl rfl)]
    rw [this]
    refine (dl_gap 5 (by omega) (fun r h1 h2 => lastN_none _ (fun j hj e => ?_))).symm
    have := ok_mono h (i := j) (us.length - 1) (by omega) (by omega)
    omega
end M1
