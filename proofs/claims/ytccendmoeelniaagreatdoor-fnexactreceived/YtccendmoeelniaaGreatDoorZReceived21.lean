/-
  Texts of one proof, joined: Math12, Math11, Math13a.
-/
import Derived.Test.YtccendmoeelniaaGreatDoorZReceived06
import Derived.Test.YtccendmoeelniaaGreatDoorZReceived05
import Derived.Test.YtccendmoeelniaaGreatDoorZReceived20
namespace M1

/-- Of a right set each update is the next one of its region. -/
theorem next_dn {us : List Upd} (h : ∀ j, j < us.length → okAt us j = true) {k : Nat} (hk : k < us.length) : (up us k).dn = lastN us k (up us k).dr + 1 := by
  have h1 := h k hk
  unfold okAt at h1
  rw [Bool.and_eq_true] at h1
  cases k with
  | zero =>
    have h2 := h1.2
    simp at h2
    rw [h2]; rfl
  | succ k =>
    have h2 : fol (up us k) (up us (k + 1)) = true := by simpa using h1.2
    unfold fol at h2
    by_cases e : (up us (k + 1)).dr = (up us k).dr
    · rw [if_pos e] at h2
      rw [Bool.and_eq_true] at h2
      have h3 : (up us (k + 1)).dn = (up us k).dn + 1 := of_decide_eq_true h2.1
      rw [h3, lastN_succ, if_pos e.symm]
    · rw [if_neg e] at h2
      rw [Bool.and_eq_true] at h2
      have h3 : (up us (k + 1)).dn = 1 := of_decide_eq_true h2.2
      have h4 : (up us k).dr < (up us (k + 1)).dr := of_decide_eq_true h2.1
      have h5 : lastN us (k + 1) (up us (k + 1)).dr = 0 := lastN_none _ fun j hj => by
        have := ok_mono h (i := j) k (by omega) (by omega)
        omega
      rw [h3, h5]; rfl

theorem lastN_bd {us : List Upd} (h : ∀ j, j < us.length → okAt us j = true) (r : Int) : ∀ k, k ≤ us.length → 0 ≤ lastN us k r ∧ lastN us k r ≤ 1000000
  | 0, _ => by simp [lastN]
  | k + 1, hk => by
    have ih := lastN_bd h r k (by omega)
    have hr := ok_rg h (show k < us.length by omega)
    rw [lastN_succ]
    by_cases e : (up us k).dr = r
    · rw [if_pos e]; omega
    · rw [if_neg e]; exact ih

theorem lastN_ge {us : List Upd} (h : ∀ j, j < us.length → okAt us j = true) {j : Nat} : ∀ k, j < k → k ≤ us.length → (up us j).dn ≤ lastN us k (up us j).dr
  | 0, hj, _ => absurd hj (Nat.not_lt_zero _)
  | k + 1, hj, hk => by
    rw [lastN_succ]
    by_cases e : (up us k).dr = (up us j).dr
    · rw [if_pos e]
      by_cases ej : j = k
      · rw [ej]; exact Int.le_refl _
      · have ih := lastN_ge h (j := j) k (by omega) (by omega)
        have := next_dn h (show k < us.length by omega)
        rw [e] at this
        omega
    · rw [if_neg e]
      have ej : ¬ j = k := fun ej => e (by rw [ej])
      exact lastN_ge h k (by omega) (by omega)

/-- f 1 + .. + f m. -/
def sumF (f : Int → Int) : Nat → Int
  | 0 => 0
  | m + 1 => sumF f m + f (m + 1)
theorem sumF_congr {f g : Int → Int} : ∀ m : Nat, (∀ r : Int, 1 ≤ r → r ≤ m → f r = g r) → sumF f m = sumF g m
  | 0, _ => rfl
  | m + 1, h => by
    unfold sumF
    rw [sumF_congr m fun r h1 h2 => h r h1 (by omega), h (m + 1) (by omega) (by omega)]
theorem sumF_put {f g : Int → Int} {r v : Int} (hg : ∀ x, g x = if r = x then v else f x) : ∀ m : Nat, 1 ≤ r → r ≤ m → sumF g m = sumF f m + (v - f r)
  | 0, h1, h2 => by omega
  | m + 1, h1, h2 => by
    unfold sumF
    by_cases e : r = m + 1
    · have : sumF g m = sumF f m := sumF_congr m fun x h3 h4 => by rw [hg, if_neg (by omega)]
      rw [this, hg, if_pos e, e]; omega
    · rw [sumF_put hg m h1 (by omega), hg (m + 1), if_neg e]; omega
theorem sum_len {us : List Upd} (h : ∀ j, j < us.length → okAt us j = true) : ∀ k, k ≤ us.length → sumF (lastN us k) 5 = k
  | 0, _ => by simp [sumF, lastN]
  | k + 1, hk => by
    have ih := sum_len h k (by omega)
    have hr := ok_rg h (show k < us.length by omega)
    rw [sumF_put (f := lastN us k) (r := (up us k).dr) (v := (up us k).dn) (fun x => lastN_succ us k x) 5 hr.1 hr.2.1, ih, next_dn h (show k < us.length by omega)]
    omega

/-- The first k numbers of a vector, summed. -/
def sumN (ds : List (Int × Int)) : Nat → Int
  | 0 => 0
  | k + 1 => sumN ds k + nm ds k
theorem sumN_app {ds : List (Int × Int)} {d : Int × Int} : ∀ k, k ≤ ds.length → sumN (ds ++ [d]) k = sumN ds k
  | 0, _ => rfl
  | k + 1, h => by
    unfold sumN
    rw [sumN_app k (by omega), (rg_app (show k < ds.length by omega)).2]
theorem sumN_dlTo (f : Int → Int) (hf : ∀ r, 0 ≤ f r) : ∀ m, sumN (dlTo f m) (dlTo f m).length = sumF f m
  | 0 => rfl
  | m + 1 => by
    have ih := sumN_dlTo f hf m
    by_cases h : 0 < f (m + 1)
    · rw [dlTo_yes h]
      simp only [List.length_append, List.length_cons, List.length_nil, Nat.zero_add]
      unfold sumF
      show sumN (dlTo f m ++ [_]) (dlTo f m).length + _ = _
      rw [sumN_app _ (Nat.le_refl _), ih, (rg_last _ _).2]
    · rw [dlTo_no h, ih]
      have := hf (m + 1)
      show sumF f m = sumF f m + f (m + 1)
      omega
theorem sumN_vec {us : List Upd} (h : ∀ j, j < us.length → okAt us j = true) : sumN (vecU us) (vecU us).length = us.length := by
  unfold vecU
  rw [sumN_dlTo]
  · exact sum_len h _ (Nat.le_refl _)
  · exact fun r => (lastN_bd h r _ (Nat.le_refl _)).1
theorem vecU_ok {us : List Upd} (h : ∀ j, j < us.length → okAt us j = true) : vecOk (vecU us) = true :=
  dlTo_ok (fun r => (lastN_bd h r _ (Nat.le_refl _)).2) 5 (Nat.le_refl _)
theorem vecU_lk {us : List Upd} (h : ∀ j, j < us.length → okAt us j = true) {r : Int} (h1 : 1 ≤ r) (h5 : r ≤ 5) : lk (vecU us) r = lastN us us.length r := by
  unfold vecU
  rw [lk_dlTo]
  have := (lastN_bd h r _ (Nat.le_refl us.length)).1
  by_cases e : 0 < lastN us us.length r
  · rw [if_pos ⟨h1, h5, e⟩]
  · rw [if_neg (fun q => e q.2.2)]; omega
theorem vecU_ge {us : List Upd} (h : ∀ j, j < us.length → okAt us j = true) {j : Nat} (hj : j < us.length) : (up us j).dn ≤ lk (vecU us) (up us j).dr := by
  have hr := ok_rg h hj
  rw [vecU_lk h hr.1 hr.2.1]
  exact lastN_ge h _ hj (Nat.le_refl _)
theorem sumN_bd {ds : List (Int × Int)} (h : vecOk ds = true) : ∀ k, k ≤ ds.length → 0 ≤ sumN ds k ∧ sumN ds k ≤ k * 1000000
  | 0, _ => by simp [sumN]
  | k + 1, hk => by
    have ih := sumN_bd h k (by omega)
    have hd := dotOk_true (vok_dot (vecOk_all h k (by omega)))
    unfold sumN
    omega
theorem ok_dahead {us : List Upd} {j : Nat} (h : okAt us (j + 1) = true) : dahead (up us j).dr (up us j).dn (up us (j + 1)).dr (up us (j + 1)).dn = true := by
  unfold okAt at h
  rw [Bool.and_eq_true] at h
  have h2 : fol (up us j) (up us (j + 1)) = true := by simpa using h.2
  unfold fol at h2
  unfold dahead
  by_cases e : (up us (j + 1)).dr = (up us j).dr
  · rw [if_pos e, Bool.and_eq_true] at h2
    have := of_decide_eq_true h2.1
    simp [e]; omega
  · rw [if_neg e, Bool.and_eq_true] at h2
    have := of_decide_eq_true h2.1
    simp; omega
end M1

namespace M1

/-- Does a run of one region end at place i? -/
def endAt (us : List Upd) (i : Nat) : Prop := i + 1 = us.length ∨ ¬ (up us (i + 1)).dr = (up us i).dr
instance (us : List Upd) (i : Nat) : Decidable (endAt us i) := by unfold endAt; exact inferInstance
def l3To (us : List Upd) : Nat → List (Int × Int)
  | 0 => []
  | k + 1 => if endAt us k then l3To us k ++ [((up us k).dr, (up us k).dn)] else l3To us k
def l3v (us : List Upd) : List (Int × Int) := l3To us us.length
theorem l3To_yes {us : List Upd} {k : Nat} (h : endAt us k) : l3To us (k + 1) = l3To us k ++ [((up us k).dr, (up us k).dn)] := by simp [l3To, h]
theorem l3To_no {us : List Upd} {k : Nat} (h : ¬ endAt us k) : l3To us (k + 1) = l3To us k := by simp [l3To, h]
theorem l3To_len (us : List Upd) : ∀ k, (l3To us k).length ≤ k
  | 0 => by simp [l3To]
  | k + 1 => by
    have := l3To_len us k
    by_cases h : endAt us k
    · rw [l3To_yes h]; simp; omega
    · rw [l3To_no h]; omega
theorem l3v_len (us : List Upd) : (l3v us).length ≤ us.length := l3To_len us us.length

/-- The first number of that region. -/
def fm : List (Int × Int) → Int → Int
  | [], _ => 0
  | d :: l, r => if d.1 = r then d.2 else fm l r
theorem fm_none {r : Int} : ∀ {l : List (Int × Int)}, (∀ j, j < l.length → ¬ rg l j = r) → fm l r = 0
  | [], _ => rfl
  | d :: l, h => by
    have h0 : ¬ d.1 = r := h 0 (by simp)
    unfold fm
    rw [if_neg h0]
    exact fm_none fun j hj => h (j + 1) (by simpa using hj)
theorem fm_at {r : Int} : ∀ {l : List (Int × Int)} {k : Nat}, k < l.length → rg l k = r → (∀ j, j < k → ¬ rg l j = r) → fm l r = nm l k
  | [], k, hk, _, _ => absurd hk (by simp)
  | d :: l, 0, _, h, _ => by
    have h0 : d.1 = r := h
    unfold fm
    rw [if_pos h0]; rfl
  | d :: l, k + 1, hk, h, hall => by
    have h0 : ¬ d.1 = r := hall 0 (by omega)
    unfold fm
    rw [if_neg h0]
    exact fm_at (l := l) (k := k) (by simpa using hk) h fun j hj => hall (j + 1) (by omega)
theorem fm_lk {l : List (Int × Int)} (h : vecOk l = true) (r : Int) : fm l r = lk l r := by
  rcases lk_some_or l r with hn | ⟨j, hj, rfl⟩
  · rw [fm_none hn, lk_none hn]
  · rw [lk_at h hj]
    exact fm_at hj rfl fun i hi e => by
      have := vok_rise h j hi hj
      omega
end M1

namespace M1
def jl (xs ys : List Upd) : List Upd := jlTo xs ys ys.length
def jOk (xs ys : List Upd) : Bool := agreeB xs ys && setOk (jl xs ys)
def jL (xs ys : List Upd) : List Upd := if jOk xs ys = true then jl xs ys else []
theorem j_no {xs ys : List Upd} (h : agreeB xs ys = false) : jOk xs ys = false ∧ jL xs ys = [] := by
  have : jOk xs ys = false := by unfold jOk; rw [h]; rfl
  exact ⟨this, by unfold jL; rw [this]; rfl⟩
theorem j_not {xs ys : List Upd} (h : setOk (jl xs ys) = false) : jOk xs ys = false ∧ jL xs ys = [] := by
  have : jOk xs ys = false := by unfold jOk; rw [h]; simp
  exact ⟨this, by unfold jL; rw [this]; rfl⟩
theorem j_yes {xs ys : List Upd} (h : agreeB xs ys = true) (h2 : setOk (jl xs ys) = true) : jOk xs ys = true ∧ jL xs ys = jl xs ys := by
  have : jOk xs ys = true := by unfold jOk; rw [h, h2]; rfl
  exact ⟨this, by unfold jL; rw [if_pos this]⟩
theorem agreeB_true {xs ys : List Upd} (h : agreeB xs ys = true) : setOk xs = true ∧ setOk ys = true ∧ agreeTo xs ys ys.length := by
  unfold agreeB at h
  simp at h
  exact h
theorem puts_mem {xs ys : List Upd} {x : Upd} : ∀ {k : Nat}, x ∈ putsTo xs ys k → x ∈ xs ∨ ∃ j, j < k ∧ x = up ys j
  | 0, h => Or.inl h
  | k + 1, h => by
    unfold putsTo putL at h
    split at h
    · rcases puts_mem h with h | ⟨j, hj, e⟩
      · exact Or.inl h
      · exact Or.inr ⟨j, by omega, e⟩
    · rcases List.mem_append.1 h with h | h
      · rcases puts_mem h with h | ⟨j, hj, e⟩
        · exact Or.inl h
        · exact Or.inr ⟨j, by omega, e⟩
      · simp at h; exact Or.inr ⟨k, by omega, h⟩
theorem puts_len {xs ys : List Upd} : ∀ k, (putsTo xs ys k).length ≤ xs.length + k
  | 0 => Nat.le_refl _
  | k + 1 => by
    have := puts_len (xs := xs) (ys := ys) k
    unfold putsTo putL
    split
    · omega
    · simp; omega
theorem mem_up {l : List Upd} {x : Upd} (h : x ∈ l) : ∃ i, i < l.length ∧ up l i = x := by
  obtain ⟨i, hi, e⟩ := List.getElem_of_mem h
  exact ⟨i, hi, by rw [← e]; simp [up, List.getD, hi]⟩
theorem puts_same {xs ys : List Upd} (h : agreeB xs ys = true) {k : Nat} (hk : k < ys.length) : ∀ x, fd (putsTo xs ys k) (up ys k).dr (up ys k).dn = some x → x = up ys k := fun x hx => by
  obtain ⟨_, h2, h3⟩ := agreeB_true h
  obtain ⟨i, hi, e, e1, e2⟩ := fd_some hx
  have hm : x ∈ putsTo xs ys k := by
    rw [← e]
    have : up (putsTo xs ys k) i = (putsTo xs ys k)[i] := by simp [up, List.getD, hi]
    rw [this]; exact List.getElem_mem hi
  rcases puts_mem hm with hm | ⟨j, hj, e⟩
  · obtain ⟨q, hq, e⟩ := mem_up hm
    have := h3 k hk q hq (by rw [e]; exact ⟨e1, e2⟩)
    rw [e] at this
    exact ueq_eq this
  · rw [e] at e1 e2
    exact absurd ⟨e1, e2⟩ (ok_apart (setOk_all h2) j k hj hk)
theorem puts_txt {xs ys : List Upd} (h : agreeB xs ys = true) : ∀ i, i < (putsTo xs ys ys.length).length → (up (putsTo xs ys ys.length) i).s.size ≤ 1000 := fun i hi => by
  obtain ⟨h1, h2, _⟩ := agreeB_true h
  have hm : up (putsTo xs ys ys.length) i ∈ putsTo xs ys ys.length := by
    have : up (putsTo xs ys ys.length) i = (putsTo xs ys ys.length)[i] := by simp [up, List.getD, hi]
    rw [this]; exact List.getElem_mem hi
  rcases puts_mem hm with hm | ⟨j, hj, e⟩
  · obtain ⟨q, hq, e⟩ := mem_up hm
    have := ok_txt (okAt_ok (setOk_all h1 q hq))
    rw [e] at this
    omega
  · have := ok_txt (okAt_ok (setOk_all h2 j hj))
    rw [e]; omega
end M1
