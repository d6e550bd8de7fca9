/-
  Plain mathematics of the spans of a trace: of each number the one of the latest stamp, found by going through all updates.
-/
import Derived.Test.YtdpeopmbboogaaaZLongest11
namespace M1
/-- Of the first k updates, of that trace and number, the one of the latest stamp. -/
def bst (us : List Upd) (tr id : Int) : Nat → Option Upd
  | 0 => none
  | k + 1 => if (up us k).k = 1 ∧ (up us k).tr = tr ∧ (up us k).id = id then
      (match bst us tr id k with
        | none => some (up us k)
        | some x => if sah x (up us k) = true then some (up us k) else some x)
    else bst us tr id k

theorem fj_none {i : Int} : ∀ {l : List Upd}, (∀ x, x ∈ l → ¬ x.id = i) → fj l i = none
  | [], _ => rfl
  | x :: t, h => by
    unfold fj
    rw [if_neg (h x (by simp))]
    exact fj_none fun y hy => h y (by simp [hy])
theorem fj_some {i : Int} {x : Upd} : ∀ {l : List Upd}, fj l i = some x → x ∈ l ∧ x.id = i
  | [], h => by cases h
  | y :: t, h => by
    unfold fj at h
    by_cases c : y.id = i
    · rw [if_pos c] at h; injection h with h; subst h; exact ⟨by simp, c⟩
    · rw [if_neg c] at h
      obtain ⟨h1, h2⟩ := fj_some h
      exact ⟨by simp [h1], h2⟩
theorem fj_put {u : Upd} {i : Int} : ∀ {bs : List Upd}, bs.Pairwise idlt → fj (putS bs u) i = if u.id = i then
      (match fj bs i with
        | none => some u
        | some x => if sah x u = true then some u else some x)
    else fj bs i
  | [], _ => by
    unfold putS fj
    split
    · rfl
    · rfl
  | y :: t, h => by
    rw [List.pairwise_cons] at h
    by_cases c1 : y.id < u.id
    · have e : putS (y :: t) u = y :: putS t u := by show (if y.id < u.id then _ else _) = _; rw [if_pos c1]
      rw [e]
      have ih := fj_put (u := u) (i := i) h.2
      by_cases c2 : y.id = i
      · have c3 : ¬ u.id = i := by omega
        show (if y.id = i then _ else _) = _
        rw [if_pos c2, if_neg c3]
        show _ = (if y.id = i then _ else _)
        rw [if_pos c2]
      · have e2 : fj (y :: t) i = fj t i := by show (if y.id = i then _ else _) = _; rw [if_neg c2]
        rw [e2]
        show (if y.id = i then _ else _) = _
        rw [if_neg c2, ih]
    · by_cases c2 : y.id = u.id
      · have e : putS (y :: t) u = (if sah y u = true then u :: t else y :: t) := by
          show (if y.id < u.id then _ else if y.id = u.id then _ else _) = _
          rw [if_neg c1, if_pos c2]
        rw [e]
        by_cases c3 : u.id = i
        · have c4 : y.id = i := by omega
          have e2 : fj (y :: t) i = some y := by show (if y.id = i then _ else _) = _; rw [if_pos c4]
          rw [if_pos c3, e2]
          show _ = (if sah y u = true then some u else some y)
          split
          · show (if u.id = i then _ else _) = _; rw [if_pos c3]
          · exact e2
        · have c4 : ¬ y.id = i := by omega
          rw [if_neg c3]
          split
          · show (if u.id = i then _ else _) = (if y.id = i then _ else _); rw [if_neg c3, if_neg c4]
          · rfl
      · have e : putS (y :: t) u = u :: y :: t := by
          show (if y.id < u.id then _ else if y.id = u.id then _ else _) = _
          rw [if_neg c1, if_neg c2]
        rw [e]
        by_cases c3 : u.id = i
        · have e2 : fj (y :: t) i = none := fj_none fun x hx => by
            rcases List.mem_cons.1 hx with rfl | hx
            · omega
            · have := h.1 x hx; unfold idlt at this; omega
          rw [if_pos c3, e2]
          show (if u.id = i then _ else _) = _
          rw [if_pos c3]
        · rw [if_neg c3]
          show (if u.id = i then _ else _) = _
          rw [if_neg c3]
theorem bst_sp (us : List Upd) (tr id : Int) : ∀ k, bst us tr id k = fj (spTo us tr k) id
  | 0 => rfl
  | k + 1 => by
    unfold bst spTo
    rw [bst_sp us tr id k]
    by_cases c : (up us k).k = 1 ∧ (up us k).tr = tr
    · rw [if_pos c, fj_put (spTo_sorted us tr k)]
      by_cases c2 : (up us k).id = id
      · rw [if_pos c2, if_pos ⟨c.1, c.2, c2⟩]
      · rw [if_neg c2, if_neg fun q => c2 q.2.2]
    · rw [if_neg c, if_neg fun q => c ⟨q.1, q.2.1⟩]
theorem bst_kind {us : List Upd} {tr id : Int} {x : Upd} : ∀ {k : Nat}, bst us tr id k = some x → x.k = 1
  | 0, h => by cases h
  | k + 1, h => by
    unfold bst at h
    split at h
    · rename_i c
      cases e : bst us tr id k with
      | none => rw [e] at h; injection h with h; rw [← h]; exact c.1
      | some y =>
        rw [e] at h
        simp only at h
        split at h
        · injection h with h; rw [← h]; exact c.1
        · injection h with h; rw [← h]; exact bst_kind e
    · exact bst_kind h
theorem fj_at {l : List Upd} (h : l.Pairwise idlt) {i : Nat} (hi : i < l.length) : fj l (up l i).id = some (up l i) := by
  have hm : up l i ∈ l := by
    have : up l i = l[i] := by simp [up, List.getD, hi]
    rw [this]; exact List.getElem_mem hi
  cases e : fj l (up l i).id with
  | none =>
    exfalso
    have : ∀ (l : List Upd) (x : Upd), x ∈ l → ¬ fj l x.id = none := by
      intro l
      induction l with
      | nil => intro x hx; cases hx
      | cons y t ih =>
        intro x hx hn
        unfold fj at hn
        by_cases c : y.id = x.id
        · rw [if_pos c] at hn; cases hn
        · rw [if_neg c] at hn
          rcases List.mem_cons.1 hx with rfl | hx
          · exact c rfl
          · exact ih x hx hn
    exact this l _ hm e
  | some y =>
    obtain ⟨h1, h2⟩ := fj_some e
    congr 1
    obtain ⟨j, hj, e2⟩ := List.getElem_of_mem h1
    have e3 : up l i = l[i] := by simp [up, List.getD, hi]
    rw [e3] at h2 ⊢
    rw [← e2] at h2 ⊢
    rw [List.pairwise_iff_getElem] at h
    rcases Nat.lt_trichotomy i j with q | q | q
    · have := h i j hi hj q; unfold idlt at this; omega
    · subst q; rfl
    · have := h j i hj hi q; unfold idlt at this; omega
theorem bst_at (us : List Upd) (tr : Int) (n : Nat) {i : Nat} (hi : i < (spTo us tr n).length) : bst us tr (up (spTo us tr n) i).id n = some (up (spTo us tr n) i) := by
  rw [bst_sp]; exact fj_at (spTo_sorted us tr n) hi
theorem bst_in {us : List Upd} {tr : Int} {n k : Nat} (hk : k < n) (h1 : (up us k).k = 1) (h2 : (up us k).tr = tr) : ∃ i, i < (spTo us tr n).length ∧ (up (spTo us tr n) i).id = (up us k).id := by
  have hne : ∀ m, k < m → ¬ bst us tr (up us k).id m = none := by
    intro m
    induction m with
    | zero => intro h; omega
    | succ m ih =>
      intro h hn
      unfold bst at hn
      split at hn
      · cases e : bst us tr (up us k).id m with
        | none => rw [e] at hn; cases hn
        | some y => rw [e] at hn; simp only at hn; split at hn <;> cases hn
      · rename_i c
        by_cases q : k = m
        · subst q; exact c ⟨h1, h2, rfl⟩
        · exact ih (by omega) hn
  have := hne n hk
  rw [bst_sp] at this
  cases e : fj (spTo us tr n) (up us k).id with
  | none => exact absurd e this
  | some y =>
    obtain ⟨h3, h4⟩ := fj_some e
    obtain ⟨j, hj, e2⟩ := List.getElem_of_mem h3
    exact ⟨j, hj, by rw [← h4, ← e2]; simp [up, List.getD, hj]⟩
theorem sp_lt (us : List Upd) (tr : Int) (n : Nat) {i : Nat} (hi : i + 1 < (spTo us tr n).length) : (up (spTo us tr n) i).id < (up (spTo us tr n) (i + 1)).id := by
  have h := spTo_sorted us tr n
  rw [List.pairwise_iff_getElem] at h
  have := h i (i + 1) (by omega) hi (by omega)
  have e1 : up (spTo us tr n) i = (spTo us tr n)[i] := by simp [up, List.getD, show i < (spTo us tr n).length by omega]
  have e2 : up (spTo us tr n) (i + 1) = (spTo us tr n)[i + 1] := by simp [up, List.getD, hi]
  rw [e1, e2]; exact this
end M1
