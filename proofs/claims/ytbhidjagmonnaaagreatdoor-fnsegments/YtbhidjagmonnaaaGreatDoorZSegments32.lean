/-
  Texts of one proof, joined: Math12, Math11, Math13a, Math14.
-/
import Derived.Test.YtbhidjagmonnaaaGreatDoorZSegments27
import Derived.Test.YtbhidjagmonnaaaGreatDoorZSegments31
namespace M1

/-- Of a right set each update is the next one of its region. -/
theorem next_dn {us : List Upd} (h : ∀ j, j < us.length → okAt us j = true) {k : Nat} (hk : k < us.length) : (up us k).dn = lastN us k (up us k).dr + 1 := by
  have h1 := h k hk
  unfold okAt at h1
  rw [Bool.and_eq_true] at h1
  cases k with
  | zero =>
    have h2 := h1.2
    simp at h2
    rw [h2]; rfl
  | succ k =>
    have h2 : fol (up us k) (up us (k + 1)) = true := by simpa using h1.2
    unfold fol at h2
    by_cases e : (up us (k + 1)).dr = (up us k).dr
    · rw [if_pos e] at h2
      rw [Bool.and_eq_true] at h2
      have h3 : (up us (k + 1)).dn = (up us k).dn + 1 := of_decide_eq_true h2.1
      rw [h3, lastN_succ, if_pos e.symm]
    · rw [if_neg e] at h2
      rw [Bool.and_eq_true] at h2
      have h3 : (up us (k + 1)).dn = 1 := of_decide_eq_true h2.2
      have h4 : (up us k).dr < (up us (k + 1)).dr := of_decide_eq_true h2.1
      have h5 : lastN us (k + 1) (up us (k + 1)).dr = 0 := lastN_none _ fun j hj => by
        have := ok_mono h (i := j) k (by omega) (by omega)
        omega
      rw [h3, h5]; rfl

theorem lastN_bd {us : List Upd} (h : ∀ j, j < us.length → okAt us j = true) (r : Int) : ∀ k, k ≤ us.length → 0 ≤ lastN us k r ∧ lastN us k r ≤ 1000000
  | 0, _ => by simp [lastN]
  | k + 1, hk => by
    have ih := lastN_bd h r k (by omega)
    have hr := ok_rg h (show k < us.length by omega)
    rw [lastN_succ]
    by_cases e : (up us k).dr = r
    · rw [if_pos e]; omega
    · rw [if_neg e]; exact ih

theorem lastN_ge {us : List Upd} (h : ∀ j, j < us.length → okAt us j = true) {j : Nat} : ∀ k, j < k → k ≤ us.length → (up us j).dn ≤ lastN us k (up us j).dr
  | 0, hj, _ => absurd hj (Nat.not_lt_zero _)
  | k + 1, hj, hk => by
    rw [lastN_succ]
    by_cases e : (up us k).dr = (up us j).dr
    · rw [if_pos e]
      by_cases ej : j = k
      · rw [ej]; exact Int.le_refl _
      · have ih := lastN_ge h (j := j) k (by omega) (by omega)
        have := next_dn h (show k < us.length by omega)
        rw [e] at this
        omega
    · rw [if_neg e]
      have ej : ¬ j = k := fun ej => e (by rw [ej])
      exact lastN_ge h k (by omega) (by omega)

/-- f 1 + .. + f m. -/
def sumF (f : Int → Int) : Nat → Int
  | 0 => 0
  | m + 1 => sumF f m + f (m + 1)
theorem sumF_congr {f g : Int → Int} : ∀ m : Nat, (∀ r : Int, 1 ≤ r → r ≤ m → f r = g r) → sumF f m = sumF g m
  | 0, _ => rfl
  | m + 1, h => by
    unfold sumF
    rw [sumF_congr m fun r h1 h2 => h r h1 (by omega), h (m + 1) (by omega) (by omega)]
theorem sumF_put {f g : Int → Int} {r v : Int} (hg : ∀ x, g x = if r = x then v else f x) : ∀ m : Nat, 1 ≤ r → r ≤ m → sumF g m = sumF f m + (v - f r)
  | 0, h1, h2 => by omega
  | m + 1, h1, h2 => by
    unfold sumF
    by_cases e : r = m + 1
    · have : sumF g m = sumF f m := sumF_congr m fun x h3 h4 => by rw [hg, if_neg (by omega)]
      rw [this, hg, if_pos e, e]; omega
    · rw [sumF_put hg m h1 (by omega), hg (m + 1), if_neg e]; omega
theorem sum_len {us : List Upd} (h : ∀ j, j < us.length → okAt us j = true) : ∀ k, k ≤ us.length → sumF (lastN us k) 5 = k
  | 0, _ => by simp [sumF, lastN]
  | k + 1, hk => by
    have ih := sum_len h k (by omega)
    have hr := ok_rg h (show k < us.length by omega)
    rw [sumF_put (f := lastN us k) (r := (up us k).dr) (v := (up us k).dn) (fun x => lastN_succ us k x) 5 hr.1 hr.2.1, ih, next_dn h (show k < us.length by omega)]
    omega

/-- The first k numbers of a vector, summed. -/
def sumN (ds : List (Int × Int)) : Nat → Int
  | 0 => 0
  | k + 1 => sumN ds k + nm ds k
theorem sumN_app {ds : List (Int × Int)} {d : Int × Int} : ∀ k, k ≤ ds.length → sumN (ds ++ [d]) k = sumN ds k
  | 0, _ => rfl
  | k + 1, h => by
    unfold sumN
    rw [sumN_app k (by omega), (rg_app (show k < ds.length by omega)).2]
theorem sumN_dlTo (f : Int → Int) (hf : ∀ r, 0 ≤ f r) : ∀ m, sumN (dlTo f m) (dlTo f m).length = sumF f m
  | 0 => rfl
  | m + 1 => by
    have ih := sumN_dlTo f hf m
    by_cases h : 0 < f (m + 1)
    · rw [dlTo_yes h]
      simp only [List.length_append, List.length_cons, List.length_nil, Nat.zero_add]
      unfold sumF
      show sumN (dlTo f m ++ [_]) (dlTo f m).length + _ = _
      rw [sumN_app _ (Nat.le_refl _), ih, (rg_last _ _).2]
    · rw [dlTo_no h, ih]
      have := hf (m + 1)
      show sumF f m = sumF f m + f (m + 1)
      omega
theorem sumN_vec {us : List Upd} (h : ∀ j, j < us.length → okAt us j = true) : sumN (vecU us) (vecU us).length = us.length := by
  unfold vecU
  rw [sumN_dlTo]
  · exact sum_len h _ (Nat.le_refl _)
  · exact fun r => (lastN_bd h r _ (Nat.le_refl _)).1
theorem vecU_ok {us : List Upd} (h : ∀ j, j < us.length → okAt us j = true) : vecOk (vecU us) = true :=
  dlTo_ok (fun r => (lastN_bd h r _ (Nat.le_refl _)).2) 5 (Nat.le_refl _)
theorem vecU_lk {us : List Upd} (h : ∀ j, j < us.length → okAt us j = true) {r : Int} (h1 : 1 ≤ r) (h5 : r ≤ 5) : lk (vecU us) r = lastN us us.length r := by
  unfold vecU
  rw [lk_dlTo]
  have := (lastN_bd h r _ (Nat.le_refl us.length)).1
  by_cases e : 0 < lastN us us.length r
  · rw [if_pos ⟨h1, h5, e⟩]
  · rw [if_neg (fun q => e q.2.2)]; omega
theorem vecU_ge {us : List Upd} (h : ∀ j, j < us.length → okAt us j = true) {j : Nat} (hj : j < us.length) : (up us j).dn ≤ lk (vecU us) (up us j).dr := by
  have hr := ok_rg h hj
  rw [vecU_lk h hr.1 hr.2.1]
  exact lastN_ge h _ hj (Nat.le_refl _)
theorem sumN_bd {ds : List (Int × Int)} (h : vecOk ds = true) : ∀ k, k ≤ ds.length → 0 ≤ sumN ds k ∧ sumN ds k ≤ k * 1000000
  | 0, _ => by simp [sumN]
  | k + 1, hk => by
    have ih := sumN_bd h k (by omega)
    have hd := dotOk_true (vok_dot (vecOk_all h k (by omega)))
    unfold sumN
    omega
theorem ok_dahead {us : List Upd} {j : Nat} (h : okAt us (j + 1) = true) : dahead (up us j).dr (up us j).dn (up us (j + 1)).dr (up us (j + 1)).dn = true := by
  unfold okAt at h
  rw [Bool.and_eq_true] at h
  have h2 : fol (up us j) (up us (j + 1)) = true := by simpa using h.2
  unfold fol at h2
  unfold dahead
  by_cases e : (up us (j + 1)).dr = (up us j).dr
  · rw [if_pos e, Bool.and_eq_true] at h2
    have := of_decide_eq_true h2.1
    simp [e]; omega
  · rw [if_neg e, Bool.and_eq_true] at h2
    have := of_decide_eq_true h2.1
    simp; omega
end M1

namespace M1

/-- Does a run of one region end at place i? -/
def endAt (us : List Upd) (i : Nat) : Prop := i + 1 = us.length ∨ ¬ (up us (i + 1)).dr = (up us i).dr
instance (us : List Upd) (i : Nat) : Decidable (endAt us i) := by unfold endAt; exact inferInstance
def l3To (us : List Upd) : Nat → List (Int × Int)
  | 0 => []
  | k + 1 => if endAt us k then l3To us k ++ [((up us k).dr, (up us k).dn)] else l3To us k
def l3v (us : List Upd) : List (Int × Int) := l3To us us.length
theorem l3To_yes {us : List Upd} {k : Nat} (h : endAt us k) : l3To us (k + 1) = l3To us k ++ [((up us k).dr, (up us k).dn)] := by simp [l3To, h]
theorem l3To_no {us : List Upd} {k : Nat} (h : ¬ endAt us k) : l3To us (k + 1) = l3To us k := by simp [l3To, h]
theorem l3To_len (us : List Upd) : ∀ k, (l3To us k).length ≤ k
  | 0 => by simp [l3To]
  | k + 1 => by
    have := l3To_len us k
    by_cases h : endAt us k
    · rw [l3To_yes h]; simp; omega
    · rw [l3To_no h]; omega
theorem l3v_len (us : List Upd) : (l3v us).length ≤ us.length := l3To_len us us.length

/-- The first number of that region. -/
def fm : List (Int × Int) → Int → Int
  | [], _ => 0
  | d :: l, r => if d.1 = r then d.2 else fm l r
theorem fm_none {r : Int} : ∀ {l : List (Int × Int)}, (∀ j, j < l.length → ¬ rg l j = r) → fm l r = 0
  | [], _ => rfl
  | d :: l, h => by
    have h0 : ¬ d.1 = r := h 0 (by simp)
    unfold fm
    rw [if_neg h0]
    exact fm_none fun j hj => h (j + 1) (by simpa using hj)
theorem fm_at {r : Int} : ∀ {l : List (Int × Int)} {k : Nat}, k < l.length → rg l k = r → (∀ j, j < k → ¬ rg l j = r) → fm l r = nm l k
  | [], k, hk, _, _ => absurd hk (by simp)
  | d :: l, 0, _, h, _ => by
    have h0 : d.1 = r := h
    unfold fm
    rw [if_pos h0]; rfl
  | d :: l, k + 1, hk, h, hall => by
    have h0 : ¬ d.1 = r := hall 0 (by omega)
    unfold fm
    rw [if_neg h0]
    exact fm_at (l := l) (k := k) (by simpa using hk) h fun j hj => hall (j + 1) (by omega)
theorem fm_lk {l : List (Int × Int)} (h : vecOk l = true) (r : Int) : fm l r = lk l r := by
  rcases lk_some_or l r with hn | ⟨j, hj, rfl⟩
  · rw [fm_none hn, lk_none hn]
  · rw [lk_at h hj]
    exact fm_at hj rfl fun i hi e => by
      have := vok_rise h j hi hj
      omega
end M1

namespace M1
def jl (xs ys : List Upd) : List Upd := jlTo xs ys ys.length
def jOk (xs ys : List Upd) : Bool := agreeB xs ys && setOk (jl xs ys)
def jL (xs ys : List Upd) : List Upd := if jOk xs ys = true then jl xs ys else []
theorem j_no {xs ys : List Upd} (h : agreeB xs ys = false) : jOk xs ys = false ∧ jL xs ys = [] := by
  have : jOk xs ys = false := by unfold jOk; rw [h]; rfl
  exact ⟨this, by unfold jL; rw [this]; rfl⟩
theorem j_not {xs ys : List Upd} (h : setOk (jl xs ys) = false) : jOk xs ys = false ∧ jL xs ys = [] := by
  have : jOk xs ys = false := by unfold jOk; rw [h]; simp
  exact ⟨this, by unfold jL; rw [this]; rfl⟩
theorem j_yes {xs ys : List Upd} (h : agreeB xs ys = true) (h2 : setOk (jl xs ys) = true) : jOk xs ys = true ∧ jL xs ys = jl xs ys := by
  have : jOk xs ys = true := by unfold jOk; rw [h, h2]; rfl
  exact ⟨this, by unfold jL; rw [if_pos this]⟩
theorem agreeB_true {xs ys : List Upd} (h : agreeB xs ys = true) : setOk xs = true ∧ setOk ys = true ∧ agreeTo xs ys ys.length := by
  unfold agreeB at h
  simp at h
  exact h
theorem puts_mem {xs ys : List Upd} {x : Upd} : ∀ {k : Nat}, x ∈ putsTo xs ys k → x ∈ xs ∨ ∃ j, j < k ∧ x = up ys j
  | 0, h => Or.inl h
  | k + 1, h => by
    unfold putsTo putL at h
    split at h
    · rcases puts_mem h with h | ⟨j, hj, e⟩
      · exact Or.inl h
      · exact Or.inr ⟨j, by omega, e⟩
    · rcases List.mem_append.1 h with h | h
      · rcases puts_mem h with h | ⟨j, hj, e⟩
        · exact Or.inl h
        · exact Or.inr ⟨j, by omega, e⟩
      · simp at h; exact Or.inr ⟨k, by omega, h⟩
theorem puts_len {xs ys : List Upd} : ∀ k, (putsTo xs ys k).length ≤ xs.length + k
  | 0 => Nat.le_refl _
  | k + 1 => by
    have := puts_len (xs := xs) (ys := ys) k
    unfold putsTo putL
    split
    · omega
    · simp; omega
theorem mem_up {l : List Upd} {x : Upd} (h : x ∈ l) : ∃ i, i < l.length ∧ up l i = x := by
  obtain ⟨i, hi, e⟩ := List.getElem_of_mem h
  exact ⟨i, hi, by rw [← e]; simp [up, List.getD, hi]⟩
theorem puts_same {xs ys : List Upd} (h : agreeB xs ys = true) {k : Nat} (hk : k < ys.length) : ∀ x, fd (putsTo xs ys k) (up ys k).dr (up ys k).dn = some x → x = up ys k := fun x hx => by
  obtain ⟨_, h2, h3⟩ := agreeB_true h
  obtain ⟨i, hi, e, e1, e2⟩ := fd_some hx
  have hm : x ∈ putsTo xs ys k := by
    rw [← e]
    have : up (putsTo xs ys k) i = (putsTo xs ys k)[i] := by simp [up, List.getD, hi]
    rw [this]; exact List.getElem_mem hi
  rcases puts_mem hm with hm | ⟨j, hj, e⟩
  · obtain ⟨q, hq, e⟩ := mem_up hm
    have := h3 k hk q hq (by rw [e]; exact ⟨e1, e2⟩)
    rw [e] at this
    exact ueq_eq this
  · rw [e] at e1 e2
    exact absurd ⟨e1, e2⟩ (ok_apart (setOk_all h2) j k hj hk)
theorem puts_txt {xs ys : List Upd} (h : agreeB xs ys = true) : ∀ i, i < (putsTo xs ys ys.length).length → (up (putsTo xs ys ys.length) i).s.size ≤ 1000 := fun i hi => by
  obtain ⟨h1, h2, _⟩ := agreeB_true h
  have hm : up (putsTo xs ys ys.length) i ∈ putsTo xs ys ys.length := by
    have : up (putsTo xs ys ys.length) i = (putsTo xs ys ys.length)[i] := by simp [up, List.getD, hi]
    rw [this]; exact List.getElem_mem hi
  rcases puts_mem hm with hm | ⟨j, hj, e⟩
  · obtain ⟨q, hq, e⟩ := mem_up hm
    have := ok_txt (okAt_ok (setOk_all h1 q hq))
    rw [e] at this
    omega
  · have := ok_txt (okAt_ok (setOk_all h2 j hj))
    rw [e]; omega
end M1

namespace M1

theorem fm_val {r v : Int} : ∀ {l : List (Int × Int)}, (∃ d ∈ l, d.1 = r) → (∀ d ∈ l, d.1 = r → d.2 = v) → fm l r = v
  | [], ⟨d, hd, _⟩, _ => by cases hd
  | e :: l, ⟨d, hd, he⟩, h => by
    unfold fm
    by_cases c : e.1 = r
    · rw [if_pos c]; exact h e (by simp) c
    · rw [if_neg c]
      refine fm_val ?_ fun x hx => h x (by simp [hx])
      rcases List.mem_cons.1 hd with q | q
      · subst q; exact absurd he c
      · exact ⟨d, q, he⟩
theorem fm_zero {r : Int} : ∀ {l : List (Int × Int)}, (∀ d ∈ l, ¬ d.1 = r) → fm l r = 0
  | [], _ => rfl
  | e :: l, h => by
    unfold fm
    rw [if_neg (h e (by simp))]
    exact fm_zero fun x hx => h x (by simp [hx])

theorem l3To_mem {us : List Upd} {d : Int × Int} : ∀ {k : Nat}, d ∈ l3To us k → ∃ i, i < k ∧ endAt us i ∧ d = ((up us i).dr, (up us i).dn)
  | 0, h => by cases h
  | k + 1, h => by
    by_cases c : endAt us k
    · rw [l3To_yes c] at h
      rcases List.mem_append.1 h with h | h
      · obtain ⟨i, hi, q⟩ := l3To_mem h; exact ⟨i, by omega, q⟩
      · simp at h; exact ⟨k, by omega, c, h⟩
    · rw [l3To_no c] at h
      obtain ⟨i, hi, q⟩ := l3To_mem h; exact ⟨i, by omega, q⟩
theorem l3To_has {us : List Upd} {i : Nat} (c : endAt us i) : ∀ {k : Nat}, i < k → ((up us i).dr, (up us i).dn) ∈ l3To us k
  | 0, h => by omega
  | k + 1, h => by
    by_cases e : i = k
    · subst e; rw [l3To_yes c]; simp
    · have ih := l3To_has c (k := k) (by omega)
      by_cases c2 : endAt us k
      · rw [l3To_yes c2]; simp [ih]
      · rw [l3To_no c2]; exact ih

theorem srt_idx {us : List Upd} (h : us.Pairwise dd) {i j : Nat} (hij : i < j) (hj : j < us.length) : dd (up us i) (up us j) := by
  have := List.pairwise_iff_getElem.1 h i j (by omega) hj hij
  have ei : up us i = us[i] := by simp [up, List.getD, show i < us.length by omega]
  have ej : up us j = us[j] := by simp [up, List.getD, hj]
  rw [ei, ej]; exact this

theorem fm_max {us : List Upd} (h : us.Pairwise dd) {x : Upd} (hx : x ∈ us) (hm : ∀ y ∈ us, y.dr = x.dr → y.dn ≤ x.dn) : fm (l3v us) x.dr = x.dn := by
  obtain ⟨i, hi, e⟩ := mem_up hx
  subst e
  have hend : endAt us i := by
    by_cases c : i + 1 = us.length
    · exact Or.inl c
    · refine Or.inr fun e => ?_
      have hj : i + 1 < us.length := by omega
      have h1 := dd_iff.1 (srt_idx h (show i < i + 1 by omega) hj)
      have h2 := hm (up us (i + 1)) (by
        have : up us (i + 1) = us[i + 1] := by simp [up, List.getD, hj]
        rw [this]; exact List.getElem_mem hj) e
      omega
  refine fm_val ⟨_, l3To_has hend hi, rfl⟩ fun d hd he => ?_
  obtain ⟨j, hj, hje, rfl⟩ := l3To_mem hd
  have he' : (up us j).dr = (up us i).dr := he
  show (up us j).dn = (up us i).dn
  by_cases c1 : j < i
  · exfalso
    rcases hje with q | q
    · omega
    · have h1 := dd_iff.1 (srt_idx h (show j < j + 1 by omega) (by omega))
      by_cases c2 : j + 1 = i
      · rw [c2] at q; exact q he'.symm
      · have h2 := dd_iff.1 (srt_idx h (show j + 1 < i by omega) hi)
        omega
  · by_cases c2 : i < j
    · have h1 := dd_iff.1 (srt_idx h c2 hj)
      have h2 := hm (up us j) (by
        have : up us j = us[j] := by simp [up, List.getD, hj]
        rw [this]; exact List.getElem_mem hj) he'
      omega
    · have : i = j := by omega
      rw [this]
theorem fm_out {us : List Upd} {r : Int} (h : ∀ x ∈ us, ¬ x.dr = r) : fm (l3v us) r = 0 := fm_zero fun d hd => by
  obtain ⟨i, hi, _, rfl⟩ := l3To_mem hd
  refine h (up us i) ?_
  have : up us i = us[i] := by simp [up, List.getD, hi]
  rw [this]; exact List.getElem_mem hi

structure LInv (L : Int → Int) (us : List Upd) : Prop where
  el : ∀ x ∈ us, 1 ≤ x.dr ∧ x.dr ≤ 5 ∧ 1 ≤ x.dn ∧ x.dn ≤ L x.dr
  bd : ∀ r, 0 ≤ L r ∧ L r ≤ 1000000
  has : ∀ r, 1 ≤ r → r ≤ 5 → 0 < L r → ∃ x ∈ us, x.dr = r ∧ x.dn = L r
theorem LInv.fm {L : Int → Int} {us : List Upd} (h : LInv L us) (hs : us.Pairwise dd) {r : Int} (h1 : 1 ≤ r) (h5 : r ≤ 5) : M1.fm (l3v us) r = L r := by
  by_cases c : 0 < L r
  · obtain ⟨x, hx, e1, e2⟩ := h.has r h1 h5 c
    have := fm_max hs hx fun y hy e => by
      have := (h.el y hy).2.2.2
      rw [e, e1] at this; omega
    rw [e1, e2] at this; exact this
  · have h0 : L r = 0 := by have := (h.bd r).1; omega
    rw [h0]
    exact fm_out fun x hx e => by
      have := h.el x hx
      rw [e] at this
      omega
theorem LInv.put {L : Int → Int} {us : List Upd} (h : LInv L us) {u : Upd} (hu : 1 ≤ u.dr ∧ u.dr ≤ 5 ∧ 1 ≤ u.dn ∧ u.dn ≤ 1000000) (hn : u.dn = L u.dr + 1) : (∀ x ∈ us, ¬ (x.dr = u.dr ∧ x.dn = u.dn)) ∧ LInv (fun r => if r = u.dr then u.dn else L r) (insD us u) := by
  have hnew : ∀ x ∈ us, ¬ (x.dr = u.dr ∧ x.dn = u.dn) := fun x hx e => by
    have := (h.el x hx).2.2.2
    rw [e.1] at this; omega
  refine ⟨hnew, ⟨fun x hx => ?_, fun r => ?_, fun r h1 h5 hr => ?_⟩⟩
  · rcases insD_mem hx with hx | hx
    · have q := h.el x hx
      refine ⟨q.1, q.2.1, q.2.2.1, ?_⟩
      by_cases e : x.dr = u.dr
      · simp only [if_pos e]; have := q.2.2.2; rw [e] at this; omega
      · simp only [if_neg e]; exact q.2.2.2
    · subst hx; simp; omega
  · by_cases e : r = u.dr
    · simp only [if_pos e]; omega
    · simp only [if_neg e]; exact h.bd r
  · have hp := insD_new hnew
    by_cases e : r = u.dr
    · exact ⟨u, hp.mem_iff.2 (by simp), e.symm, by simp [e]⟩
    · simp only [if_neg e] at hr ⊢
      obtain ⟨x, hx, q⟩ := h.has r h1 h5 hr
      exact ⟨x, hp.mem_iff.2 (by simp [hx]), q⟩
theorem LInv.start {xs : List Upd} (h : ∀ j, j < xs.length → okAt xs j = true) : LInv (lastN xs xs.length) xs := by
  refine ⟨fun x hx => ?_, fun r => lastN_bd h r _ (Nat.le_refl _), fun r h1 h5 hr => ?_⟩
  · obtain ⟨i, hi, e⟩ := mem_up hx
    have q := ok_rg h hi
    have g := lastN_ge h xs.length hi (Nat.le_refl _)
    rw [e] at q g
    exact ⟨q.1, q.2.1, q.2.2.1, g⟩
  · have key : ∀ k, k ≤ xs.length → 0 < lastN xs k r → ∃ x ∈ xs, x.dr = r ∧ x.dn = lastN xs k r := by
      intro k
      induction k with
      | zero => intro _ h; simp [lastN] at h
      | succ k ih =>
        intro hk hpos
        rw [lastN_succ] at hpos ⊢
        by_cases e : (up xs k).dr = r
        · rw [if_pos e]
          refine ⟨up xs k, ?_, e, rfl⟩
          have : up xs k = xs[k] := by simp [up, List.getD, show k < xs.length by omega]
          rw [this]; exact List.getElem_mem (by omega)
        · rw [if_neg e] at hpos ⊢; exact ih (by omega) hpos
    exact key _ (Nat.le_refl _) hr

/-- What is taken, one by one: the last numbers, the model's list, the map's list. -/
def tkL (xs ys : List Upd) : Nat → Int → Int
  | 0 => lastN xs xs.length
  | k + 1 => if (up ys k).dn = tkL xs ys k (up ys k).dr + 1 then fun r => if r = (up ys k).dr then (up ys k).dn else tkL xs ys k r else tkL xs ys k
def tkO (xs ys : List Upd) : Nat → List Upd
  | 0 => xs
  | k + 1 => if (up ys k).dn = tkL xs ys k (up ys k).dr + 1 then insD (tkO xs ys k) (up ys k) else tkO xs ys k
def tkM (xs ys : List Upd) : Nat → List Upd
  | 0 => xs
  | k + 1 => if (up ys k).dn = tkL xs ys k (up ys k).dr + 1 then putL (tkM xs ys k) (up ys k) else tkM xs ys k

theorem tk_all {xs ys : List Upd} (hx : ∀ j, j < xs.length → okAt xs j = true) (hy : ∀ j, j < ys.length → okU (up ys j) = true) : ∀ k, k ≤ ys.length → (tkO xs ys k).Pairwise dd ∧ (tkM xs ys k).Perm (tkO xs ys k) ∧ LInv (tkL xs ys k) (tkO xs ys k)
  | 0, _ => ⟨ok_sorted hx, List.Perm.refl _, LInv.start hx⟩
  | k + 1, hk => by
    obtain ⟨h1, h2, h3⟩ := tk_all hx hy k (by omega)
    have hd := okU_dot (hy k (by omega))
    by_cases c : (up ys k).dn = tkL xs ys k (up ys k).dr + 1
    · simp only [tkO, tkM, tkL, if_pos c]
      have q := jl_step (u := up ys k) h1 h2
      exact ⟨q.1, q.2, (h3.put hd c).2⟩
    · simp only [tkO, tkM, tkL, if_neg c]
      exact ⟨h1, h2, h3⟩
theorem tk_fd {xs ys : List Upd} (hx : ∀ j, j < xs.length → okAt xs j = true) (hy : ∀ j, j < ys.length → okU (up ys j) = true) {k : Nat} (hk : k < ys.length) (c : (up ys k).dn = tkL xs ys k (up ys k).dr + 1) : fd (tkM xs ys k) (up ys k).dr (up ys k).dn = none := by
  obtain ⟨h1, h2, h3⟩ := tk_all hx hy k (by omega)
  have hd := okU_dot (hy k hk)
  have hn := (h3.put hd c).1
  cases e : fd (tkM xs ys k) (up ys k).dr (up ys k).dn with
  | none => rfl
  | some x =>
    have : (fd (tkM xs ys k) (up ys k).dr (up ys k).dn).isSome = true := by rw [e]; rfl
    obtain ⟨y, hy, q⟩ := fd_mem.1 this
    exact absurd q (hn y (h2.mem_iff.1 hy))
theorem tk_mem {xs ys : List Upd} {x : Upd} : ∀ {k : Nat}, x ∈ tkO xs ys k → x ∈ xs ∨ ∃ j, j < k ∧ x = up ys j
  | 0, h => Or.inl h
  | k + 1, h => by
    unfold tkO at h
    split at h
    · rcases insD_mem h with h | h
      · rcases tk_mem h with h | ⟨j, hj, e⟩
        · exact Or.inl h
        · exact Or.inr ⟨j, by omega, e⟩
      · exact Or.inr ⟨k, by omega, h⟩
    · rcases tk_mem h with h | ⟨j, hj, e⟩
      · exact Or.inl h
      · exact Or.inr ⟨j, by omega, e⟩
theorem tkM_len {xs ys : List Upd} : ∀ k, (tkM xs ys k).length ≤ xs.length + k
  | 0 => Nat.le_refl _
  | k + 1 => by
    have := tkM_len (xs := xs) (ys := ys) k
    unfold tkM putL
    split
    · split
      · omega
      · simp; omega
    · omega

def tpre (xs ys : List Upd) : Bool := setOk xs && decide (ys.length ≤ 60) && allR ys
def tO (xs ys : List Upd) : List Upd := tkO xs ys ys.length
def tOk (xs ys : List Upd) : Bool := tpre xs ys && setOk (tO xs ys)
def tL (xs ys : List Upd) : List Upd := if tOk xs ys = true then tO xs ys else []
theorem t_no {xs ys : List Upd} (h : tpre xs ys = false) : tOk xs ys = false ∧ tL xs ys = [] := by
  have : tOk xs ys = false := by unfold tOk; rw [h]; rfl
  exact ⟨this, by unfold tL; rw [this]; rfl⟩
theorem t_not {xs ys : List Upd} (h : setOk (tO xs ys) = false) : tOk xs ys = false ∧ tL xs ys = [] := by
  have : tOk xs ys = false := by unfold tOk; rw [h]; simp
  exact ⟨this, by unfold tL; rw [this]; rfl⟩
theorem t_yes {xs ys : List Upd} (h : tpre xs ys = true) (h2 : setOk (tO xs ys) = true) : tOk xs ys = true ∧ tL xs ys = tO xs ys := by
  have : tOk xs ys = true := by unfold tOk; rw [h, h2]; rfl
  exact ⟨this, by unfold tL; rw [if_pos this]⟩
theorem tpre_true {xs ys : List Upd} (h : tpre xs ys = true) : setOk xs = true ∧ ys.length ≤ 60 ∧ allR ys = true := by
  unfold tpre at h
  simp at h
  exact ⟨h.1.1, h.1.2, h.2⟩
theorem tk_txt {xs ys : List Upd} (h : tpre xs ys = true) {k : Nat} (hk : k ≤ ys.length) {x : Upd} (hx : x ∈ tkO xs ys k) : x.s.size ≤ 12 := by
  obtain ⟨h1, _, h3⟩ := tpre_true h
  rcases tk_mem hx with hm | ⟨j, hj, e⟩
  · obtain ⟨q, hq, e⟩ := mem_up hm
    have := ok_txt (okAt_ok (setOk_all h1 q hq))
    rwa [e] at this
  · have := ok_txt (allR_all h3 j (by omega))
    rw [e]; exact this
end M1
