/-
  Texts of one proof, joined: Math23, Math24.
-/
import Derived.Test.YtdpeopmbboogaaaZLongest28
namespace M1
abbrev idsO (O : List (Upd × Int)) : List Int := O.map fun q => q.1.id
theorem nd_put {S : List Upd} (hS : S.Pairwise idlt) {r s : Upd} {d : Nat} {D : Int} {O : List (Upd × Int)} (h : Pre S r s d O) (hn : (idsO O).Nodup) : (idsO (O ++ [(s, D)])).Nodup := by
  unfold idsO at *
  rw [List.map_append, List.nodup_append]
  refine ⟨hn, by simp, fun a ha b hb => ?_⟩
  simp at hb
  subst hb
  obtain ⟨q, hq, e⟩ := List.mem_map.1 ha
  intro e2
  rcases h.out q hq with h1 | h1
  · exact h1 (e.trans e2)
  · exact h1 hS
theorem nd_grow {S : List Upd} (hS : S.Pairwise idlt) : ∀ (f : Nat) {r s : Upd} {d : Nat} {D : Int} {O : List (Upd × Int)}, Pre S r s d O → (idsO O).Nodup → (idsO (O ++ growF S f s D)).Nodup
  | 0, r, s, d, D, O, _, hn => by simpa [growF] using hn
  | f + 1, r, s, d, D, O, h, hn => by
    have key : ∀ i, i ≤ (kids S s).length → (idsO (O ++ (s, D) :: kidsTo S f s D i)).Nodup := by
      intro i
      induction i with
      | zero => intro _; exact nd_put hS h hn
      | succ i ih =>
        intro hi
        have ih' := ih (by omega)
        rw [kidsTo_step (by omega)]
        by_cases c : rootB S (up (kids S s) i) = true
        · rw [if_pos c, List.append_nil]; exact ih'
        · rw [if_neg c]
          have := nd_grow hS f (D := D + 1) (pre_kid hS (f := f) (D := D) h (by omega) (by simpa using c)) ih'
          have e : O ++ (s, D) :: (kidsTo S f s D i ++ growF S f (up (kids S s) i) (D + 1)) = (O ++ (s, D) :: kidsTo S f s D i) ++ growF S f (up (kids S s) i) (D + 1) := by simp
          rw [e]; exact this
    rw [growF_all]; exact key _ (Nat.le_refl _)
theorem nd_kids {S : List Upd} (hS : S.Pairwise idlt) {f : Nat} {r s : Upd} {d : Nat} {D : Int} {O : List (Upd × Int)} (h : Pre S r s d O) (hn : (idsO O).Nodup) : ∀ i, i ≤ (kids S s).length → (idsO (O ++ (s, D) :: kidsTo S f s D i)).Nodup := by
  intro i
  induction i with
  | zero => intro _; exact nd_put hS h hn
  | succ i ih =>
    intro hi
    have ih' := ih (by omega)
    rw [kidsTo_step (by omega)]
    by_cases c : rootB S (up (kids S s) i) = true
    · rw [if_pos c, List.append_nil]; exact ih'
    · rw [if_neg c]
      have := nd_grow hS f (D := D + 1) (pre_kid hS (f := f) (D := D) h (by omega) (by simpa using c)) ih'
      have e : O ++ (s, D) :: (kidsTo S f s D i ++ growF S f (up (kids S s) i) (D + 1)) = (O ++ (s, D) :: kidsTo S f s D i) ++ growF S f (up (kids S s) i) (D + 1) := by simp
      rw [e]; exact this
theorem nd_for {S : List Upd} (hS : S.Pairwise idlt) : ∀ i, i ≤ S.length → (idsO (forTo S i)).Nodup := by
  intro i
  induction i with
  | zero => intro _; simp [forTo]
  | succ i ih =>
    intro hi
    rw [forTo_step (by omega)]
    by_cases c : rootB S (up S i) = true
    · rw [if_pos c]; exact nd_grow hS _ (pre_root hS (by omega) c) (ih (by omega))
    · rw [if_neg c, List.append_nil]; exact ih (by omega)
theorem nd_len {S : List Upd} {O : List (Upd × Int)} (hn : (idsO O).Nodup) (hm : ∀ q ∈ O, q.1 ∈ S) : O.length ≤ S.length := by
  have := int_nodup_sub (m := S.map (·.id)) hn fun i hi => by
    obtain ⟨q, hq, e⟩ := List.mem_map.1 hi
    exact List.mem_map.2 ⟨q.1, hm q hq, e⟩
  simpa using this
theorem for_mem {S : List Upd} (hS : S.Pairwise idlt) {i : Nat} {q : Upd × Int} (h : q ∈ forTo S i) : q.1 ∈ S := by
  obtain ⟨s, hs, hq⟩ := List.mem_flatMap.1 h
  have hsS := List.mem_of_mem_take hs
  split at hq
  · exact (grow_mem hS hsS hq).1
  · cases hq
theorem kids_mem2 {S : List Upd} (hS : S.Pairwise idlt) {f : Nat} {s : Upd} {D : Int} {O : List (Upd × Int)} {i : Nat} (hs : s ∈ S) (hO : ∀ q ∈ O, q.1 ∈ S) (hi : i ≤ (kids S s).length) : ∀ q ∈ O ++ (s, D) :: kidsTo S f s D i, q.1 ∈ S := fun q hq => by
  rcases List.mem_append.1 hq with h | h
  · exact hO q h
  · rcases List.mem_cons.1 h with e | h
    · rw [e]; exact hs
    · obtain ⟨_, _, _, h1, _⟩ := kidsTo_mem hS hi h
      exact h1

/-- Places by number. -/
theorem fj_first {S : List Upd} {i : Nat} {x : Int} (hi : i < S.length) (h : (up S i).id = x) (hno : ∀ j, j < i → ¬ (up S j).id = x) : fj S x = some (up S i) := by
  have key : ∀ (S : List Upd) (i : Nat), i < S.length → (up S i).id = x → (∀ j, j < i → ¬ (up S j).id = x) → fj S x = some (up S i) := by
    intro S
    induction S with
    | nil => intro i hi; simp at hi
    | cons y t ih =>
      intro i hi h hno
      unfold fj
      cases i with
      | zero =>
        have h' : y.id = x := h
        rw [if_pos h']; rfl
      | succ i =>
        have h0 : ¬ y.id = x := hno 0 (by omega)
        rw [if_neg h0]
        exact ih i (by simp at hi; omega) h fun j hj => hno (j + 1) (by omega)
  exact key S i hi h hno
theorem fj_nowhere {S : List Upd} {x : Int} (hno : ∀ j, j < S.length → ¬ (up S j).id = x) : fj S x = none := fj_none fun y hy => by
  obtain ⟨j, hj, e⟩ := in_up hy
  rw [e]; exact hno j hj
theorem up_ne {S : List Upd} (hS : S.Pairwise idlt) {i j : Nat} (hi : i < S.length) (hj : j < S.length) : ((up S i).id = (up S j).id) ↔ i = j := by
  constructor
  · intro e
    rw [List.pairwise_iff_getElem] at hS
    have e1 : up S i = S[i] := by simp [up, List.getD, hi]
    have e2 : up S j = S[j] := by simp [up, List.getD, hj]
    rw [e1, e2] at e
    rcases Nat.lt_trichotomy i j with q | q | q
    · have := hS i j hi hj q; unfold idlt at this; omega
    · exact q
    · have := hS j i hj hi q; unfold idlt at this; omega
  · intro e; rw [e]
end M1

namespace M1
/-- Each has a root above it. -/
theorem root_above {S : List Upd} (hS : S.Pairwise idlt) {s : Upd} (hs : s ∈ S) : ∃ j r, r ∈ S ∧ rootB S r = true ∧ Sub S r s j := by
  have hx : ∃ n y, itr S n s = some y ∧ rootB S y = true := by
    refine Classical.byContradiction fun hno => ?_
    have hn : ∀ n y, itr S n s = some y → rootB S y = false := fun n y h => by
      cases e : rootB S y with
      | false => rfl
      | true => exact absurd ⟨n, y, h, e⟩ hno
    have hd : ∀ n, ∃ y, itr S n s = some y := by
      intro n
      induction n with
      | zero => exact ⟨s, rfl⟩
      | succ n ih =>
        obtain ⟨y, hy⟩ := ih
        cases e : par S y with
        | none =>
          have q := hn n y hy
          unfold rootB at q
          rw [e] at q; cases q
        | some z => exact ⟨z, by rw [itr_add hy, itr_one]; exact e⟩
    obtain ⟨y, hy⟩ := hd S.length
    have := sub_deep hS hs (⟨hy, fun i z _ hz => hn i z hz⟩ : Sub S y s S.length)
    omega
  have key : ∀ n y, itr S n s = some y → rootB S y = true → ∃ j r, r ∈ S ∧ rootB S r = true ∧ Sub S r s j := by
    intro n
    induction n using Nat.strongRecOn with
    | _ n ih =>
      intro y hy hr
      by_cases hq : ∃ i z, i < n ∧ itr S i s = some z ∧ rootB S z = true
      · obtain ⟨i, z, hi, hz, hzr⟩ := hq
        exact ih i hi z hz hzr
      · refine ⟨n, y, itr_mem hs hy, hr, hy, fun i z hi hz => ?_⟩
        cases e : rootB S z with
        | false => rfl
        | true => exact absurd ⟨i, z, hi, hz, e⟩ hq
  obtain ⟨n, y, hy, hr⟩ := hx
  exact key n y hy hr
theorem grow_has {S : List Upd} {x : Upd} (hx : x ∈ S) : ∀ (j f : Nat) (s : Upd) (d : Int), Sub S s x j → j < f → ∃ D, (x, D) ∈ growF S f s d := by
  intro j
  induction j with
  | zero =>
    intro f s d h hf
    cases f with
    | zero => omega
    | succ f =>
      have e : some x = some s := h.1
      injection e with e
      exact ⟨d, by rw [e]; unfold growF; exact List.mem_cons_self⟩
  | succ j ih =>
    intro f s d h hf
    cases f with
    | zero => omega
    | succ f =>
      obtain ⟨k, hk1, hk2⟩ := itr_back (a := j) (b := 1) h.1
      rw [itr_one] at hk2
      have hks := itr_mem hx hk1
      have hkr := h.2 j k (by omega) hk1
      obtain ⟨D, hD⟩ := ih f k (d + 1) ⟨hk1, fun i y hi hy => h.2 i y (by omega) hy⟩ (by omega)
      refine ⟨D, ?_⟩
      unfold growF
      refine List.mem_cons_of_mem _ (List.mem_flatMap.2 ⟨k, kids_mem.2 ⟨hks, (par_id hk2).symm⟩, ?_⟩)
      rw [if_neg (by rw [hkr]; simp)]
      exact hD
/-- Each span is in the forest. -/
theorem for_all {S : List Upd} (hS : S.Pairwise idlt) {s : Upd} (hs : s ∈ S) : ∃ D, (s, D) ∈ forest S := by
  obtain ⟨j, r, hr, hrr, hsub⟩ := root_above hS hs
  obtain ⟨D, hD⟩ := grow_has hs j S.length r 0 hsub (sub_deep hS hs hsub)
  refine ⟨D, ?_⟩
  unfold forest forTo
  rw [List.take_length]
  refine List.mem_flatMap.2 ⟨r, hr, ?_⟩
  rw [if_pos hrr]
  exact hD
theorem for_len_eq {S : List Upd} (hS : S.Pairwise idlt) : (forest S).length = S.length := by
  have h1 : (forest S).length ≤ S.length := nd_len (nd_for hS _ (Nat.le_refl _)) fun _ hq => for_mem hS hq
  have h2 : (S.map (·.id)).Nodup := by
    unfold List.Nodup
    rw [List.pairwise_map]
    refine hS.imp fun h => ?_
    unfold idlt at h
    omega
  have h3 := int_nodup_sub (m := idsO (forest S)) h2 fun i hi => by
    obtain ⟨s, hs, e⟩ := List.mem_map.1 hi
    obtain ⟨D, hD⟩ := for_all hS hs
    exact List.mem_map.2 ⟨(s, D), hD, e⟩
  simp at h3
  omega

/-- Below its parent, one deeper, with nothing less deep between. -/
def Und (O : List (Upd × Int)) (k : Nat) (q : Upd × Int) : Prop := ∃ a p, a < k ∧ O[a]? = some p ∧ p.2 = q.2 - 1 ∧ p.1.id = q.1.pa ∧ ∀ j r, a < j → j < k → O[j]? = some r → q.2 ≤ r.2
def Ord (O : List (Upd × Int)) : Prop := ∀ k q, O[k]? = some q → 0 ≤ q.2 ∧ (q.2 = 0 ∨ Und O k q)
theorem Und.app {O P : List (Upd × Int)} {k : Nat} {q : Upd × Int} (hk : k ≤ O.length) (h : Und O k q) : Und (O ++ P) k q := by
  obtain ⟨a, p, h1, h2, h3, h4, h5⟩ := h
  refine ⟨a, p, h1, ?_, h3, h4, fun j r ha hj hr => h5 j r ha hj ?_⟩
  · rw [List.getElem?_append_left (by omega)]; exact h2
  · rw [List.getElem?_append_left (by omega)] at hr; exact hr
theorem Ord.snoc {O : List (Upd × Int)} {q : Upd × Int} (h : Ord O) (h0 : 0 ≤ q.2) (hq : q.2 = 0 ∨ Und O O.length q) : Ord (O ++ [q]) := by
  intro k p hp
  by_cases hk : k < O.length
  · rw [List.getElem?_append_left hk] at hp
    exact ⟨(h k p hp).1, (h k p hp).2.imp id fun u => u.app (by omega)⟩
  · rw [List.getElem?_append_right (by omega)] at hp
    have hk0 : k - O.length = 0 := by
      rcases Nat.eq_zero_or_pos (k - O.length) with e | e
      · exact e
      · rw [List.getElem?_eq_none (by simp; omega)] at hp; cases hp
    rw [hk0] at hp
    have e : q = p := by simpa using hp
    subst e
    have hkl : k = O.length := by omega
    rw [hkl]
    exact ⟨h0, hq.imp id fun u => u.app (Nat.le_refl _)⟩
theorem grow_deep {S : List Upd} : ∀ {f : Nat} {s : Upd} {d : Int} {q : Upd × Int}, q ∈ growF S f s d → d ≤ q.2
  | 0, s, d, q, h => by cases h
  | f + 1, s, d, q, h => by
    have h' : q = (s, d) ∨ q ∈ (kids S s).flatMap fun k => if rootB S k = true then [] else growF S f k (d + 1) := List.mem_cons.1 h
    rcases h' with e | h'
    · rw [e]; exact Int.le_refl _
    · obtain ⟨k, hk, hq⟩ := List.mem_flatMap.1 h'
      by_cases c : rootB S k = true
      · rw [if_pos c] at hq; cases hq
      · rw [if_neg c] at hq
        have := grow_deep hq
        omega
theorem kids_deep {S : List Upd} {f : Nat} {s : Upd} {d : Int} {i : Nat} {q : Upd × Int} (h : q ∈ kidsTo S f s d i) : d + 1 ≤ q.2 := by
  obtain ⟨k, hk, hq⟩ := List.mem_flatMap.1 h
  by_cases c : rootB S k = true
  · rw [if_pos c] at hq; cases hq
  · rw [if_neg c] at hq
    exact grow_deep hq
theorem ord_grow {S : List Upd} : ∀ (f : Nat) {s : Upd} {d : Int} {O : List (Upd × Int)}, Ord O → 0 ≤ d → (d = 0 ∨ Und O O.length (s, d)) → Ord (O ++ growF S f s d)
  | 0, s, d, O, h, _, _ => by simpa [growF] using h
  | f + 1, s, d, O, h, hd, hu => by
    have key : ∀ i, i ≤ (kids S s).length → Ord (O ++ (s, d) :: kidsTo S f s d i) := by
      intro i
      induction i with
      | zero => intro _; exact h.snoc hd hu
      | succ i ih =>
        intro hi
        have ih' := ih (by omega)
        rw [kidsTo_step (by omega)]
        by_cases c : rootB S (up (kids S s) i) = true
        · rw [if_pos c, List.append_nil]; exact ih'
        · rw [if_neg c]
          have e : O ++ (s, d) :: (kidsTo S f s d i ++ growF S f (up (kids S s) i) (d + 1)) = (O ++ (s, d) :: kidsTo S f s d i) ++ growF S f (up (kids S s) i) (d + 1) := by simp
          rw [e]
          refine ord_grow f ih' (by omega) (Or.inr ⟨O.length, (s, d), by simp, by simp, by simp, ?_, fun j r hj hj2 hr => ?_⟩)
          · exact ((kids_mem.1 (up_in (show i < (kids S s).length by omega))).2).symm
          · rw [List.getElem?_append_right (by omega)] at hr
            have e2 : j - O.length = (j - O.length - 1) + 1 := by omega
            rw [e2, List.getElem?_cons_succ] at hr
            exact kids_deep (List.mem_of_getElem? hr)
    rw [growF_all]; exact key _ (Nat.le_refl _)
theorem ord_for {S : List Upd} : ∀ i, i ≤ S.length → Ord (forTo S i) := by
  intro i
  induction i with
  | zero => intro _ k q h; simp [forTo] at h
  | succ i ih =>
    intro hi
    rw [forTo_step (by omega)]
    by_cases c : rootB S (up S i) = true
    · rw [if_pos c]; exact ord_grow _ (ih (by omega)) (by omega) (Or.inl rfl)
    · rw [if_neg c, List.append_nil]; exact ih (by omega)
theorem ord_forest (S : List Upd) : Ord (forest S) := ord_for _ (Nat.le_refl _)
/-- Neighbours: at most one deeper than the one ahead. -/
theorem Ord.next {O : List (Upd × Int)} (h : Ord O) {k : Nat} {q p : Upd × Int} (hq : O[k + 1]? = some q) (hp : O[k]? = some p) : q.2 ≤ p.2 + 1 := by
  have hp0 := (h k p hp).1
  rcases (h (k + 1) q hq).2 with e | ⟨a, r, h1, h2, h3, h4, h5⟩
  · omega
  · by_cases c : a = k
    · rw [c, hp] at h2
      injection h2 with e
      rw [e]; omega
    · have := h5 k p (by omega) (by omega) hp
      omega
theorem Ord.first {O : List (Upd × Int)} (h : Ord O) {q : Upd × Int} (hq : O[0]? = some q) : q.2 = 0 := by
  rcases (h 0 q hq).2 with e | ⟨a, r, h1, _⟩
  · exact e
  · omega

/-- The path to the k-th node: of the path so far as much as it is deep, and itself. -/
def pth (O : List (Upd × Int)) : Nat → List Int
  | 0 => []
  | k + 1 => match O[k]? with
    | none => pth O k
    | some q => (pth O k).take q.2.toNat ++ [q.1.id]
theorem pth_len {O : List (Upd × Int)} (h : Ord O) : ∀ {k : Nat} {q : Upd × Int}, O[k]? = some q → (pth O (k + 1)).length = q.2.toNat + 1
  | 0, q, hq => by
    have := h.first hq
    unfold pth
    rw [hq]
    simp [pth, this]
  | k + 1, q, hq => by
    have hk : k < O.length := by
      have := (List.getElem?_eq_some_iff.1 hq).1
      omega
    have hp : O[k]? = some O[k] := List.getElem?_eq_getElem hk
    have h1 := h.next hq hp
    have h2 := pth_len h hp
    have h3 := (h k _ hp).1
    have e : pth O (k + 1 + 1) = (pth O (k + 1)).take q.2.toNat ++ [q.1.id] := by
      show (match O[k + 1]? with | none => _ | some q => _) = _
      rw [hq]
    rw [e, List.length_append, List.length_take, h2]
    simp
    omega
/-- What the model gathers going back from the k-th node, at that depth. -/
def bck (O : List (Upd × Int)) : Nat → Int → List Int
  | 0, _ => []
  | k + 1, D => match O[k]? with
    | none => bck O k D
    | some q => if q.2 = D then bck O k (D - 1) ++ [q.1.id] else bck O k D
theorem bck_neg {O : List (Upd × Int)} (h : Ord O) : ∀ {k : Nat} {D : Int}, D < 0 → bck O k D = []
  | 0, D, _ => rfl
  | k + 1, D, hD => by
    unfold bck
    cases e : O[k]? with
    | none => exact bck_neg h hD
    | some q =>
      have := (h k q e).1
      simp only
      rw [if_neg (by omega)]
      exact bck_neg h hD
theorem bck_pth {O : List (Upd × Int)} (h : Ord O) : ∀ {k : Nat} {q : Upd × Int} {D : Nat}, O[k]? = some q → D ≤ q.2.toNat → bck O (k + 1) D = (pth O (k + 1)).take (D + 1)
  | 0, q, D, hq, hD => by
    have h0 := h.first hq
    have hD0 : D = 0 := by rw [h0] at hD; simpa using hD
    subst hD0
    unfold bck pth
    rw [hq]
    simp [h0, bck, pth]
  | k + 1, q, D, hq, hD => by
    have hk : k < O.length := by
      have := (List.getElem?_eq_some_iff.1 hq).1
      omega
    have hp : O[k]? = some O[k] := List.getElem?_eq_getElem hk
    have h1 := h.next hq hp
    have hl := pth_len h hp
    have h2 := (h k _ hp).1
    have h3 := (h _ _ hq).1
    have e : pth O (k + 1 + 1) = (pth O (k + 1)).take q.2.toNat ++ [q.1.id] := by
      show (match O[k + 1]? with | none => _ | some q => _) = _
      rw [hq]
    have e2 : bck O (k + 1 + 1) D = if q.2 = D then bck O (k + 1) (D - 1) ++ [q.1.id] else bck O (k + 1) D := by
      show (match O[k + 1]? with | none => _ | some q => _) = _
      rw [hq]
    rw [e, e2]
    by_cases c : q.2 = (D : Int)
    · rw [if_pos c]
      have c2 : q.2.toNat = D := by omega
      have e3 : bck O (k + 1) ((D : Int) - 1) = (pth O (k + 1)).take D := by
        cases D with
        | zero => rw [bck_neg h (by omega)]; simp
        | succ D =>
          have := bck_pth h (D := D) hp (by omega)
          rw [show ((D + 1 : Nat) : Int) - 1 = (D : Int) by omega, this]
      rw [e3, c2, List.take_of_length_le (l := _ ++ _)]
      simp
      omega
    · rw [if_neg c]
      have hlt : D < q.2.toNat := by omega
      rw [bck_pth h (D := D) hp (by omega), List.take_append_of_le_length (by rw [List.length_take, hl]; omega), List.take_take, Nat.min_eq_left (by omega)]
/-- The place behind the first k nodes' best: the first of those that end latest. -/
def bsn (O : List (Upd × Int)) : Nat → Option Nat
  | 0 => none
  | k + 1 => match O[k]? with
    | none => bsn O k
    | some q => match bsn O k with
      | none => some k
      | some b => if (O[b]?.map (·.1.en)).getD 0 < q.1.en then some k else some b
end M1
