/-
  Texts of one proof, joined: Math18, Math20.
-/
import Derived.Test.YtdpeopmbboogaaaZLongest25
namespace M1
/-- Of the first k updates, of that trace and number, the one of the latest stamp. -/
def bst (us : List Upd) (tr id : Int) : Nat → Option Upd
  | 0 => none
  | k + 1 => if (up us k).k = 1 ∧ (up us k).tr = tr ∧ (up us k).id = id then
      (match bst us tr id k with
        | none => some (up us k)
        | some x => if sah x (up us k) = true then some (up us k) else some x)
    else bst us tr id k

theorem fj_none {i : Int} : ∀ {l : List Upd}, (∀ x, x ∈ l → ¬ x.id = i) → fj l i = none
  | [], _ => rfl
  | x :: t, h => by
    unfold fj
    rw [if_neg (h x (by simp))]
    exact fj_none fun y hy => h y (by simp [hy])
theorem fj_some {i : Int} {x : Upd} : ∀ {l : List Upd}, fj l i = some x → x ∈ l ∧ x.id = i
  | [], h => by cases h
  | y :: t, h => by
    unfold fj at h
    by_cases c : y.id = i
    · rw [if_pos c] at h; injection h with h; subst h; exact ⟨by simp, c⟩
    · rw [if_neg c] at h
      obtain ⟨h1, h2⟩ := fj_some h
      exact ⟨by simp [h1], h2⟩
theorem fj_put {u : Upd} {i : Int} : ∀ {bs : List Upd}, bs.Pairwise idlt → fj (putS bs u) i = if u.id = i then
      (match fj bs i with
        | none => some u
        | some x => if sah x u = true then some u else some x)
    else fj bs i
  | [], _ => by
    unfold putS fj
    split
    · rfl
    · rfl
  | y :: t, h => by
    rw [List.pairwise_cons] at h
    by_cases c1 : y.id < u.id
    · have e : putS (y :: t) u = y :: putS t u := by show (if y.id < u.id then _ else _) = _; rw [if_pos c1]
      rw [e]
      have ih := fj_put (u := u) (i := i) h.2
      by_cases c2 : y.id = i
      · have c3 : ¬ u.id = i := by omega
        show (if y.id = i then _ else _) = _
        rw [if_pos c2, if_neg c3]
        show _ = (if y.id = i then _ else _)
        rw [if_pos c2]
      · have e2 : fj (y :: t) i = fj t i := by show (if y.id = i then _ else _) = _; rw [if_neg c2]
        rw [e2]
        show (if y.id = i then _ else _) = _
        rw [if_neg c2, ih]
    · by_cases c2 : y.id = u.id
      · have e : putS (y :: t) u = (if sah y u = true then u :: t else y :: t) := by
          show (if y.id < u.id then _ else if y.id = u.id then _ else _) = _
          rw [if_neg c1, if_pos c2]
        rw [e]
        by_cases c3 : u.id = i
        · have c4 : y.id = i := by omega
          have e2 : fj (y :: t) i = some y := by show (if y.id = i then _ else _) = _; rw [if_pos c4]
          rw [if_pos c3, e2]
          show _ = (if sah y u = true then some u else some y)
          split
          · show (if u.id = i then _ else _) = _; rw [if_pos c3]
          · exact e2
        · have c4 : ¬ y.id = i := by omega
          rw [if_neg c3]
          split
          · show (if u.id = i then _ else _) = (if y.id = i then _ else _); rw [if_neg c3, if_neg c4]
          · rfl
      · have e : putS (y :: t) u = u :: y :: t := by
          show (if y.id < u.id then _ else if y.id = u.id then _ else _) = _
          rw [if_neg c1, if_neg c2]
        rw [e]
        by_cases c3 : u.id = i
        · have e2 : fj (y :: t) i = none := fj_none fun x hx => by
            rcases List.mem_cons.1 hx with rfl | hx
            · omega
            · have := h.1 x hx; unfold idlt at this; omega
          rw [if_pos c3, e2]
          show (if u.id = i then _ else _) = _
          rw [if_pos c3]
        · rw [if_neg c3]
          show (if u.id = i then _ else _) = _
          rw [if_neg c3]
theorem bst_sp (us : List Upd) (tr id : Int) : ∀ k, bst us tr id k = fj (spTo us tr k) id
  | 0 => rfl
  | k + 1 => by
    unfold bst spTo
    rw [bst_sp us tr id k]
    by_cases c : (up us k).k = 1 ∧ (up us k).tr = tr
    · rw [if_pos c, fj_put (spTo_sorted us tr k)]
      by_cases c2 : (up us k).id = id
      · rw [if_pos c2, if_pos ⟨c.1, c.2, c2⟩]
      · rw [if_neg c2, if_neg fun q => c2 q.2.2]
    · rw [if_neg c, if_neg fun q => c ⟨q.1, q.2.1⟩]
theorem bst_kind {us : List Upd} {tr id : Int} {x : Upd} : ∀ {k : Nat}, bst us tr id k = some x → x.k = 1
  | 0, h => by cases h
  | k + 1, h => by
    unfold bst at h
    split at h
    · rename_i c
      cases e : bst us tr id k with
      | none => rw [e] at h; injection h with h; rw [← h]; exact c.1
      | some y =>
        rw [e] at h
        simp only at h
        split at h
        · injection h with h; rw [← h]; exact c.1
        · injection h with h; rw [← h]; exact bst_kind e
    · exact bst_kind h
theorem fj_at {l : List Upd} (h : l.Pairwise idlt) {i : Nat} (hi : i < l.length) : fj l (up l i).id = some (up l i) := by
  have hm : up l i ∈ l := by
    have : up l i = l[i] := by simp [up, List.getD, hi]
    rw [this]; exact List.getElem_mem hi
  cases e : fj l (up l i).id with
  | none =>
    exfalso
    have : ∀ (l : List Upd) (x : Upd), x ∈ l → ¬ fj l x.id = none := by
      intro l
      induction l with
      | nil => intro x hx; cases hx
      | cons y t ih =>
        intro x hx hn
        unfold fj at hn
        by_cases c : y.id = x.id
        · rw [if_pos c] at hn; cases hn
        · rw [if_neg c] at hn
          rcases List.mem_cons.1 hx with rfl | hx
          · exact c rfl
          · exact ih x hx hn
    exact this l _ hm e
  | some y =>
    obtain ⟨h1, h2⟩ := fj_some e
    congr 1
    obtain ⟨j, hj, e2⟩ := List.getElem_of_mem h1
    have e3 : up l i = l[i] := by simp [up, List.getD, hi]
    rw [e3] at h2 ⊢
    rw [← e2] at h2 ⊢
    rw [List.pairwise_iff_getElem] at h
    rcases Nat.lt_trichotomy i j with q | q | q
    · have := h i j hi hj q; unfold idlt at this; omega
    · subst q; rfl
    · have := h j i hj hi q; unfold idlt at this; omega
theorem bst_at (us : List Upd) (tr : Int) (n : Nat) {i : Nat} (hi : i < (spTo us tr n).length) : bst us tr (up (spTo us tr n) i).id n = some (up (spTo us tr n) i) := by
  rw [bst_sp]; exact fj_at (spTo_sorted us tr n) hi
theorem bst_in {us : List Upd} {tr : Int} {n k : Nat} (hk : k < n) (h1 : (up us k).k = 1) (h2 : (up us k).tr = tr) : ∃ i, i < (spTo us tr n).length ∧ (up (spTo us tr n) i).id = (up us k).id := by
  have hne : ∀ m, k < m → ¬ bst us tr (up us k).id m = none := by
    intro m
    induction m with
    | zero => intro h; omega
    | succ m ih =>
      intro h hn
      unfold bst at hn
      split at hn
      · cases e : bst us tr (up us k).id m with
        | none => rw [e] at hn; cases hn
        | some y => rw [e] at hn; simp only at hn; split at hn <;> cases hn
      · rename_i c
        by_cases q : k = m
        · subst q; exact c ⟨h1, h2, rfl⟩
        · exact ih (by omega) hn
  have := hne n hk
  rw [bst_sp] at this
  cases e : fj (spTo us tr n) (up us k).id with
  | none => exact absurd e this
  | some y =>
    obtain ⟨h3, h4⟩ := fj_some e
    obtain ⟨j, hj, e2⟩ := List.getElem_of_mem h3
    exact ⟨j, hj, by rw [← h4, ← e2]; simp [up, List.getD, hj]⟩
theorem sp_lt (us : List Upd) (tr : Int) (n : Nat) {i : Nat} (hi : i + 1 < (spTo us tr n).length) : (up (spTo us tr n) i).id < (up (spTo us tr n) (i + 1)).id := by
  have h := spTo_sorted us tr n
  rw [List.pairwise_iff_getElem] at h
  have := h i (i + 1) (by omega) hi (by omega)
  have e1 : up (spTo us tr n) i = (spTo us tr n)[i] := by simp [up, List.getD, show i < (spTo us tr n).length by omega]
  have e2 : up (spTo us tr n) (i + 1) = (spTo us tr n)[i + 1] := by simp [up, List.getD, hi]
  rw [e1, e2]; exact this
end M1

namespace M1
/-- The parent among them. -/
def par (S : List Upd) (x : Upd) : Option Upd := fj S x.pa
/-- Going up from there: is x met ahead of what has a lesser number? -/
def goR (S : List Upd) (x : Upd) : Nat → Option Upd → Bool
  | 0, _ => false
  | _ + 1, none => false
  | f + 1, some y => if y.id < x.id then false else if y.id = x.id then true else goR S x f (par S y)
def rootB (S : List Upd) (x : Upd) : Bool := match par S x with
  | none => true
  | some y => goR S x S.length (some y)

theorem id_inj {S : List Upd} (hS : S.Pairwise idlt) {x y : Upd} (hx : x ∈ S) (hy : y ∈ S) (e : x.id = y.id) : x = y := by
  obtain ⟨i, hi, rfl⟩ := List.getElem_of_mem hx
  obtain ⟨j, hj, rfl⟩ := List.getElem_of_mem hy
  rw [List.pairwise_iff_getElem] at hS
  rcases Nat.lt_trichotomy i j with q | q | q
  · have := hS i j hi hj q; unfold idlt at this; omega
  · subst q; rfl
  · have := hS j i hj hi q; unfold idlt at this; omega
theorem fj_mem {S : List Upd} (hS : S.Pairwise idlt) {x : Upd} (hx : x ∈ S) : fj S x.id = some x := by
  obtain ⟨i, hi, e⟩ := List.getElem_of_mem hx
  have e2 : up S i = x := by rw [← e]; simp [up, List.getD, hi]
  have := fj_at hS hi
  rw [e2] at this; exact this
theorem par_mem {S : List Upd} {x y : Upd} (h : par S x = some y) : y ∈ S := (fj_some h).1
theorem par_id {S : List Upd} {x y : Upd} (h : par S x = some y) : y.id = x.pa := (fj_some h).2

theorem int_nodup_sub : ∀ {l m : List Int}, l.Nodup → (∀ x ∈ l, x ∈ m) → l.length ≤ m.length
  | [], m, _, _ => Nat.zero_le _
  | a :: t, m, hn, hs => by
    rw [List.nodup_cons] at hn
    have ha : a ∈ m := hs a List.mem_cons_self
    have h1 := int_nodup_sub (l := t) (m := m.erase a) hn.2 fun x hx => (List.mem_erase_of_ne (show x ≠ a from fun e => hn.1 (by rw [← e]; exact hx))).2 (hs x (List.mem_cons_of_mem _ hx))
    have h2 := (List.perm_cons_erase ha).length_eq
    simp at h2 ⊢
    omega

/-- A way up: each one's parent is the next; the last bears x's number, all ahead of it a greater one. -/
def Pth (S : List Upd) (x : Upd) : List Upd → Prop
  | [] => False
  | [y] => y.id = x.id
  | y :: z :: t => x.id < y.id ∧ par S y = some z ∧ Pth S x (z :: t)

theorem goR_path {S : List Upd} {x : Upd} : ∀ {f : Nat} {y : Upd}, goR S x f (some y) = true → ∃ l, Pth S x (y :: l) ∧ l.length < f
  | 0, y, h => by cases h
  | f + 1, y, h => by
    unfold goR at h
    by_cases c1 : y.id < x.id
    · rw [if_pos c1] at h; cases h
    · rw [if_neg c1] at h
      by_cases c2 : y.id = x.id
      · exact ⟨[], c2, by simp⟩
      · rw [if_neg c2] at h
        cases e : par S y with
        | none => rw [e] at h; cases f <;> cases h
        | some z =>
          rw [e] at h
          obtain ⟨l, hl, hf⟩ := goR_path h
          exact ⟨z :: l, ⟨by omega, e, hl⟩, by simp; omega⟩
theorem path_goR {S : List Upd} {x : Upd} : ∀ {l : List Upd} {y : Upd} {f : Nat}, Pth S x (y :: l) → l.length < f → goR S x f (some y) = true
  | [], y, 0, _, h => by simp at h
  | [], y, f + 1, h, _ => by
    have h' : y.id = x.id := h
    unfold goR
    rw [if_neg (by omega), if_pos h']
  | z :: t, y, 0, _, h => by simp at h
  | z :: t, y, f + 1, h, hf => by
    obtain ⟨h1, h2, h3⟩ := h
    unfold goR
    rw [if_neg (by omega), if_neg (by omega), h2]
    exact path_goR h3 (by simp at hf; omega)
theorem path_mem {S : List Upd} {x : Upd} : ∀ {l : List Upd} {y : Upd}, y ∈ S → Pth S x (y :: l) → ∀ z ∈ y :: l, z ∈ S
  | [], y, hy, _, z, hz => by simp at hz; rw [hz]; exact hy
  | w :: t, y, hy, h, z, hz => by
    rcases List.mem_cons.1 hz with e | hz
    · rw [e]; exact hy
    · exact path_mem (par_mem h.2.1) h.2.2 z hz
theorem path_from {S : List Upd} {x : Upd} : ∀ {l : List Upd} {y z : Upd}, Pth S x (y :: l) → z ∈ y :: l → ∃ b, Pth S x (z :: b) ∧ (z :: b) <:+ (y :: l)
  | l, y, z, h, hz => by
    rcases List.mem_cons.1 hz with e | hz'
    · subst e; exact ⟨l, h, List.suffix_refl _⟩
    · match l, h, hz' with
      | w :: t, h, hz' =>
        obtain ⟨b, h1, h2⟩ := path_from h.2.2 hz'
        exact ⟨b, h1, h2.trans (List.suffix_cons _ _)⟩
theorem path_nodup {S : List Upd} {x : Upd} (hS : S.Pairwise idlt) : ∀ {l : List Upd} {y : Upd}, y ∈ S → Pth S x (y :: l) → ∃ l', Pth S x (y :: l') ∧ ((y :: l').map (·.id)).Nodup
  | [], y, _, h => ⟨[], h, by simp⟩
  | z :: t, y, hy, h => by
    have hz := par_mem h.2.1
    obtain ⟨t', h1, h2⟩ := path_nodup hS hz h.2.2
    by_cases c : y.id ∈ (z :: t').map (·.id)
    · obtain ⟨u, hu, e⟩ := List.mem_map.1 c
      have hue : u = y := id_inj hS (path_mem hz h1 u hu) hy e
      rw [hue] at hu
      obtain ⟨b, h3, h4⟩ := path_from h1 hu
      exact ⟨b, h3, ((h4.sublist.map _).nodup h2)⟩
    · refine ⟨z :: t', ⟨h.1, h.2.1, h1⟩, ?_⟩
      rw [List.map_cons, List.nodup_cons]
      exact ⟨c, h2⟩
/-- Who comes there at all comes there by as many steps as there are spans. -/
theorem goR_enough {S : List Upd} {x y : Upd} (hS : S.Pairwise idlt) (hy : y ∈ S) {f : Nat} (h : goR S x f (some y) = true) : goR S x S.length (some y) = true := by
  obtain ⟨l, hl, _⟩ := goR_path h
  obtain ⟨l', h1, h2⟩ := path_nodup hS hy hl
  refine path_goR h1 ?_
  have := int_nodup_sub (m := S.map (·.id)) h2 fun i hi => by
    obtain ⟨u, hu, e⟩ := List.mem_map.1 hi
    exact List.mem_map.2 ⟨u, path_mem hy h1 u hu, e⟩
  simp at this
  omega
theorem goR_more {S : List Upd} {x : Upd} {f : Nat} {y : Upd} (h : goR S x f (some y) = true) {g : Nat} (hg : f ≤ g) : goR S x g (some y) = true := by
  obtain ⟨l, hl, hf⟩ := goR_path h
  exact path_goR hl (by omega)

/-- As the model goes up: with the least number that it met. -/
def goS (S : List Upd) (x : Upd) : Nat → Upd → Int → Bool
  | 0, _, _ => false
  | f + 1, now, least => match par S now with
    | none => decide (now.id = x.id)
    | some y => if y.id = x.id then decide (min least y.id = x.id) else goS S x f y (min least y.id)
theorem goS_less {S : List Upd} {x : Upd} : ∀ {f : Nat} {now : Upd} {least : Int}, ¬ now.id = x.id → least < x.id → goS S x f now least = false
  | 0, _, _, _, _ => rfl
  | f + 1, now, least, h1, h2 => by
    unfold goS
    cases e : par S now with
    | none => simp [h1]
    | some y =>
      by_cases c : y.id = x.id
      · simp only [if_pos c]; simp; omega
      · simp only [if_neg c]
        exact goS_less c (by omega)
theorem goS_goR {S : List Upd} {x : Upd} : ∀ {f : Nat} {now : Upd}, ¬ now.id = x.id → goS S x f now x.id = goR S x f (par S now)
  | 0, _, _ => by unfold goS; cases par S _ <;> rfl
  | f + 1, now, h1 => by
    unfold goS
    cases e : par S now with
    | none => simp [h1, goR]
    | some y =>
      unfold goR
      by_cases c : y.id = x.id
      · simp only [if_pos c]; rw [if_neg (by omega)]; simp; omega
      · simp only [if_neg c]
        by_cases c2 : y.id < x.id
        · rw [if_pos c2, show min x.id y.id = y.id by omega]
          exact goS_less c c2
        · rw [if_neg c2, show min x.id y.id = x.id by omega]
          exact goS_goR c
theorem goS_root {S : List Upd} {x : Upd} (hS : S.Pairwise idlt) (hx : x ∈ S) : goS S x (S.length + 1) x x.id = rootB S x := by
  unfold goS rootB
  cases e : par S x with
  | none => simp
  | some y =>
    have hy := par_mem e
    have hn : 1 ≤ S.length := List.length_pos_of_mem hx
    obtain ⟨n, hn'⟩ : ∃ n, S.length = n + 1 := ⟨S.length - 1, by omega⟩
    by_cases c : y.id = x.id
    · simp only [if_pos c]
      rw [hn']
      unfold goR
      rw [if_neg (by omega), if_pos c]; simp; omega
    · simp only [if_neg c]
      by_cases c2 : y.id < x.id
      · rw [show min x.id y.id = y.id by omega, goS_less c c2, hn']
        unfold goR
        rw [if_pos c2]
      · rw [show min x.id y.id = x.id by omega, goS_goR c]
        have key : goR S x (S.length + 1) (some y) = goR S x S.length (par S y) := by
          show (if y.id < x.id then false else if y.id = x.id then true else goR S x S.length (par S y)) = _
          rw [if_neg c2, if_neg c]
        rw [← key]
        cases h1 : goR S x S.length (some y) with
        | true => exact goR_more h1 (by omega)
        | false =>
          cases h2 : goR S x (S.length + 1) (some y) with
          | false => rfl
          | true => rw [goR_enough hS hy h2] at h1; cases h1
end M1
