/-
  Plain mathematics of the forest: each span at most once; places in a list.
-/
import Derived.Test.YtdpeopmbboogaaaZLongest15
namespace M1
abbrev idsO (O : List (Upd × Int)) : List Int := O.map fun q => q.1.id
theorem nd_put {S : List Upd} (hS : S.Pairwise idlt) {r s : Upd} {d : Nat} {D : Int} {O : List (Upd × Int)} (h : Pre S r s d O) (hn : (idsO O).Nodup) : (idsO (O ++ [(s, D)])).Nodup := by
  unfold idsO at *
  rw [List.map_append, List.nodup_append]
  refine ⟨hn, by simp, fun a ha b hb => ?_⟩
  simp at hb
  subst hb
  obtain ⟨q, hq, e⟩ := List.mem_map.1 ha
  intro e2
  rcases h.out q hq with h1 | h1
  · exact h1 (e.trans e2)
  · exact h1 hS
theorem nd_grow {S : List Upd} (hS : S.Pairwise idlt) : ∀ (f : Nat) {r s : Upd} {d : Nat} {D : Int} {O : List (Upd × Int)}, Pre S r s d O → (idsO O).Nodup → (idsO (O ++ growF S f s D)).Nodup
  | 0, r, s, d, D, O, _, hn => by simpa [growF] using hn
  | f + 1, r, s, d, D, O, h, hn => by
    have key : ∀ i, i ≤ (kids S s).length → (idsO (O ++ (s, D) :: kidsTo S f s D i)).Nodup := by
      intro i
      induction i with
      | zero => intro _; exact nd_put hS h hn
      | succ i ih =>
        intro hi
        have ih' := ih (by omega)
        rw [kidsTo_step (by omega)]
        by_cases c : rootB S (up (kids S s) i) = true
        · rw [if_pos c, List.append_nil]; exact ih'
        · rw [if_neg c]
          have := nd_grow hS f (D := D + 1) (pre_kid hS (f := f) (D := D) h (by omega) (by simpa using c)) ih'
          have e : O ++ (s, D) :: (kidsTo S f s D i ++ growF S f (up (kids S s) i) (D + 1)) = (O ++ (s, D) :: kidsTo S f s D i) ++ growF S f (up (kids S s) i) (D + 1) := by simp
          rw [e]; exact this
    rw [growF_all]; exact key _ (Nat.le_refl _)
theorem nd_kids {S : List Upd} (hS : S.Pairwise idlt) {f : Nat} {r s : Upd} {d : Nat} {D : Int} {O : List (Upd × Int)} (h : Pre S r s d O) (hn : (idsO O).Nodup) : ∀ i, i ≤ (kids S s).length → (idsO (O ++ (s, D) :: kidsTo S f s D i)).Nodup := by
  intro i
  induction i with
  | zero => intro _; exact nd_put hS h hn
  | succ i ih =>
    intro hi
    have ih' := ih (by omega)
    rw [kidsTo_step (by omega)]
    by_cases c : rootB S (up (kids S s) i) = true
    · rw [if_pos c, List.append_nil]; exact ih'
    · rw [if_neg c]
      have := nd_grow hS f (D := D + 1) (pre_kid hS (f := f) (D := D) h (by omega) (by simpa using c)) ih'
      have e : O ++ (s, D) :: (kidsTo S f s D i ++ growF S f (up (kids S s) i) (D + 1)) = (O ++ (s, D) :: kidsTo S f s D i) ++ growF S f (up (kids S s) i) (D + 1) := by simp
      rw [e]; exact this
theorem nd_for {S : List Upd} (hS : S.Pairwise idlt) : ∀ i, i ≤ S.length → (idsO (forTo S i)).Nodup := by
  intro i
  induction i with
  | zero => intro _; simp [forTo]
  | succ i ih =>
    intro hi
    rw [forTo_step (by omega)]
    by_cases c : rootB S (up S i) = true
    · rw [if_pos c]; exact nd_grow hS _ (pre_root hS (by omega) c) (ih (by omega))
    · rw [if_neg c, List.append_nil]; exact ih (by omega)
theorem nd_len {S : List Upd} {O : List (Upd × Int)} (hn : (idsO O).Nodup) (hm : ∀ q ∈ O, q.1 ∈ S) : O.length ≤ S.length := by
  have := int_nodup_sub (m := S.map (·.id)) hn fun i hi => by
    obtain ⟨q, hq, e⟩ := List.mem_map.1 hi
    exact List.mem_map.2 ⟨q.1, hm q hq, e⟩
  simpa using this
theorem for_mem {S : List Upd} (hS : S.Pairwise idlt) {i : Nat} {q : Upd × Int} (h : q ∈ forTo S i) : q.1 ∈ S := by
  obtain ⟨s, hs, hq⟩ := List.mem_flatMap.1 h
  have hsS := List.mem_of_mem_take hs
  split at hq
  · exact (grow_mem hS hsS hq).1
  · cases hq
theorem kids_mem2 {S : List Upd} (hS : S.Pairwise idlt) {f : Nat} {s : Upd} {D : Int} {O : List (Upd × Int)} {i : Nat} (hs : s ∈ S) (hO : ∀ q ∈ O, q.1 ∈ S) (hi : i ≤ (kids S s).length) : ∀ q ∈ O ++ (s, D) :: kidsTo S f s D i, q.1 ∈ S := fun q hq => by
  rcases List.mem_append.1 hq with h | h
  · exact hO q h
  · rcases List.mem_cons.1 h with e | h
    · rw [e]; exact hs
    · obtain ⟨_, _, _, h1, _⟩ := kidsTo_mem hS hi h
      exact h1

/-- Places by number. -/
theorem fj_first {S : List Upd} {i : Nat} {x : Int} (hi : i < S.length) (h : (up S i).id = x) (hno : ∀ j, j < i → ¬ (up S j).id = x) : fj S x = some (up S i) := by
  have key : ∀ (S : List Upd) (i : Nat), i < S.length → (up S i).id = x → (∀ j, j < i → ¬ (up S j).id = x) → fj S x = some (up S i) := by
    intro S
    induction S with
    | nil => intro i hi; simp at hi
    | cons y t ih =>
      intro i hi h hno
      unfold fj
      cases i with
      | zero =>
        have h' : y.id = x := h
        rw [if_pos h']; rfl
      | succ i =>
        have h0 : ¬ y.id = x := hno 0 (by omega)
        rw [if_neg h0]
        exact ih i (by simp at hi; omega) h fun j hj => hno (j + 1) (by omega)
  exact key S i hi h hno
theorem fj_nowhere {S : List Upd} {x : Int} (hno : ∀ j, j < S.length → ¬ (up S j).id = x) : fj S x = none := fj_none fun y hy => by
  obtain ⟨j, hj, e⟩ := in_up hy
  rw [e]; exact hno j hj
theorem up_ne {S : List Upd} (hS : S.Pairwise idlt) {i j : Nat} (hi : i < S.length) (hj : j < S.length) : ((up S i).id = (up S j).id) ↔ i = j := by
  constructor
  · intro e
    rw [List.pairwise_iff_getElem] at hS
    have e1 : up S i = S[i] := by simp [up, List.getD, hi]
    have e2 : up S j = S[j] := by simp [up, List.getD, hj]
    rw [e1, e2] at e
    rcases Nat.lt_trichotomy i j with q | q | q
    · have := hS i j hi hj q; unfold idlt at this; omega
    · exact q
    · have := hS j i hj hi q; unfold idlt at this; omega
  · intro e; rw [e]
end M1
