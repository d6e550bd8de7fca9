/-
  Texts of one proof, joined: Math26, Math27.
-/
import Derived.Test.YtdpeopmbboogaaaZLongest35
namespace M1
/-- The same span, field by field. -/
def seq (a b : Upd) : Bool := decide (a.id = b.id ∧ a.pa = b.pa ∧ a.s.toList = b.s.toList ∧ a.st = b.st ∧ a.en = b.en)
end M1
namespace Go.Proofs.Ytdpeopmbboogaaa
theorem nd_mem {O : List (M1.Upd × Int)} {j : Nat} (h : j < O.length) : nd O j ∈ O := List.mem_of_getElem? (nd_some h)
/-- Each span stands at one place. -/
theorem for_place {S : List M1.Upd} {O : List (M1.Upd × Int)} (hS : S.Pairwise M1.idlt) (hO : M1.forest S = O) {i : Nat} (hi : i < S.length) : ∃ p, p < O.length ∧ ∀ j, j < O.length → M1.seq (nd O j).1 (M1.up S i) = decide (j = p) := by
  subst hO
  obtain ⟨D, hD⟩ := M1.for_all hS (M1.up_in hi)
  obtain ⟨p, hp, e⟩ := List.getElem_of_mem hD
  refine ⟨p, hp, fun j hj => ?_⟩
  have ep : nd (M1.forest S) p = (M1.up S i, D) := by
    have := nd_some hp
    rw [List.getElem?_eq_getElem hp, e] at this
    injection this with e2
    exact e2.symm
  by_cases c : j = p
  · subst c
    rw [ep]
    simp [M1.seq]
  · have hn : (M1.idsO (M1.forest S)).Nodup := M1.nd_for hS _ (Nat.le_refl _)
    unfold M1.idsO List.Nodup at hn
    rw [List.pairwise_map, List.pairwise_iff_getElem] at hn
    have hne : ¬ (nd (M1.forest S) j).1.id = (nd (M1.forest S) p).1.id := by
      have ej : nd (M1.forest S) j = (M1.forest S)[j] := by
        have := nd_some hj
        rw [List.getElem?_eq_getElem hj] at this
        injection this with e2
        exact e2.symm
      have ep2 : nd (M1.forest S) p = (M1.forest S)[p] := by
        have := nd_some hp
        rw [List.getElem?_eq_getElem hp] at this
        injection this with e2
        exact e2.symm
      rw [ej, ep2]
      rcases Nat.lt_or_gt_of_ne c with h | h
      · exact hn j p hj hp h
      · exact fun e => hn p j hp hj h e.symm
    rw [ep] at hne
    unfold M1.seq
    rw [decide_eq_false c]
    exact decide_eq_false fun h => hne h.1
/-- Below its parent: what the law goes back to. -/
theorem for_und {S : List M1.Upd} {O : List (M1.Upd × Int)} (hO : M1.forest S = O) {k : Nat} (hk : k < O.length) (hd : ¬ (nd O k).2 = 0) : ∃ a, a < k ∧ (nd O a).2 = (nd O k).2 - 1 ∧ (nd O a).1.id = (nd O k).1.pa ∧ ∀ j, a < j → j < k → (nd O k).2 ≤ (nd O j).2 := by
  have h := M1.ord_forest S
  rw [hO] at h
  rcases (h k _ (nd_some hk)).2 with e | ⟨a, p, h1, h2, h3, h4, h5⟩
  · exact absurd e hd
  · have ep : nd O a = p := by
      have := nd_some (O := O) (k := a) (by omega)
      rw [h2] at this
      injection this with e
      exact e.symm
    exact ⟨a, h1, by rw [ep]; exact h3, by rw [ep]; exact h4, fun j hj hj2 => h5 j _ hj hj2 (nd_some (by omega))⟩
theorem for_parent {S : List M1.Upd} {O : List (M1.Upd × Int)} (hS : S.Pairwise M1.idlt) (hO : M1.forest S = O) {k : Nat} (hk : k < O.length) (hd : ¬ (nd O k).2 = 0) : ∃ j, j < S.length ∧ (M1.up S j).id = (nd O k).1.pa := by
  obtain ⟨a, h1, _, h3, _⟩ := for_und hO hk hd
  have hm : (nd O a).1 ∈ S := by
    have := nd_mem (O := O) (j := a) (by omega)
    rw [← hO] at this ⊢
    exact M1.for_mem hS this
  obtain ⟨j, hj, e⟩ := M1.in_up hm
  exact ⟨j, hj, by rw [← e]; exact h3⟩
end Go.Proofs.Ytdpeopmbboogaaa

namespace M1
theorem pth_inv {O : List (Upd × Int)} (h : Ord O) : ∀ (k : Nat), k ≤ O.length → ∀ i, i < (pth O k).length → ∃ (j : Nat) (r : Upd × Int), j < k ∧ O[j]? = some r ∧ r.2 = (i : Int) ∧ (pth O k).getD i 0 = r.1.id ∧ (0 < i → r.1.pa = (pth O k).getD (i - 1) 0) ∧ ∀ (j' : Nat) (r' : Upd × Int), j < j' → j' < k → O[j']? = some r' → (i : Int) < r'.2
  | 0, _, i, hi => by simp [pth] at hi
  | k + 1, hk, i, hi => by
    have hkl : k < O.length := by omega
    obtain ⟨q, hq⟩ : ∃ q, O[k]? = some q := ⟨_, List.getElem?_eq_getElem hkl⟩
    have hroom := pth_room h hq
    have h0 := (h k q hq).1
    have hl : (pth O (k + 1)).length = q.2.toNat + 1 := pth_len h hq
    have e := pth_step hq
    have hlt : ((pth O k).take q.2.toNat).length = q.2.toNat := by rw [List.length_take]; omega
    have get : ∀ x, x < q.2.toNat → (pth O (k + 1)).getD x 0 = (pth O k).getD x 0 := fun x hx => by
      rw [e, List.getD_eq_getElem?_getD, List.getElem?_append_left (by omega), List.getElem?_take_of_lt hx, List.getD_eq_getElem?_getD]
    by_cases c : i < q.2.toNat
    · obtain ⟨j, r, h1, h2, h3, h4, h5, h6⟩ := pth_inv h k (by omega) i (by omega)
      refine ⟨j, r, by omega, h2, h3, by rw [get i c]; exact h4, fun hi0 => by rw [get (i - 1) (by omega)]; exact h5 hi0, fun j' r' hj hj2 hr => ?_⟩
      by_cases c2 : j' = k
      · rw [c2, hq] at hr
        injection hr with e2
        rw [← e2]; omega
      · exact h6 j' r' hj (by omega) hr
    · have hi2 : i = q.2.toNat := by omega
      refine ⟨k, q, by omega, hq, by omega, ?_, fun hi0 => ?_, fun j' r' hj hj2 _ => by omega⟩
      · rw [e, List.getD_eq_getElem?_getD, List.getElem?_append_right (by omega), hlt, hi2]
        simp
      · rw [get (i - 1) (by omega)]
        rcases (h k q hq).2 with e0 | ⟨a, p, ha, hp, hp2, hp3, hp4⟩
        · omega
        obtain ⟨j, r, h1, h2, h3, h4, h5, h6⟩ := pth_inv h k (by omega) (i - 1) (by omega)
        have haj : a = j := by
          rcases Nat.lt_trichotomy a j with x | x | x
          · have := hp4 j r x h1 h2; omega
          · exact x
          · have := h6 a p x ha hp; omega
        rw [haj, h2] at hp
        injection hp with e2
        rw [h4, e2]; exact hp3.symm
theorem lng_best {O : List (Upd × Int)} (hen : ∀ (k : Nat) (q : Upd × Int), O[k]? = some q → 0 ≤ q.1.en) : ∀ k, k ≤ O.length → 0 < k → ∃ (i : Nat) (q : Upd × Int), i < k ∧ O[i]? = some q ∧ (lng O k).1 = q.1.en ∧ (lng O k).2 = pth O (i + 1)
  | 0, _, h => by omega
  | k + 1, hk, _ => by
    have hkl : k < O.length := by omega
    obtain ⟨q, hq⟩ : ∃ q, O[k]? = some q := ⟨_, List.getElem?_eq_getElem hkl⟩
    rw [lng_step hq]
    by_cases c : (lng O k).1 < q.1.en
    · rw [if_pos c]
      exact ⟨k, q, by omega, hq, rfl, rfl⟩
    · rw [if_neg c]
      have h0 : 0 < k := by
        rcases Nat.eq_zero_or_pos k with e | e
        · subst e
          have := hen 0 q hq
          have e2 : (lng O 0).1 = -1 := rfl
          omega
        · exact e
      obtain ⟨i, p, h1, h2, h3, h4⟩ := lng_best hen k (by omega) h0
      exact ⟨i, p, by omega, h2, h3, h4⟩
/-- How late the first k nodes end, at least 0. -/
def lat (O : List (Upd × Int)) (k : Nat) : Int := max 0 (lng O k).1
theorem lat_step {O : List (Upd × Int)} {k : Nat} {q : Upd × Int} (h : O[k]? = some q) : lat O (k + 1) = max (lat O k) q.1.en := by
  unfold lat
  rw [lng_step h]
  by_cases c : (lng O k).1 < q.1.en
  · rw [if_pos c]
    simp only
    omega
  · rw [if_neg c]; omega
end M1
namespace Go.Proofs.Ytdpeopmbboogaaa
theorem nd_id {S : List M1.Upd} {O : List (M1.Upd × Int)} (hS : S.Pairwise M1.idlt) (hO : M1.forest S = O) {j p : Nat} (hj : j < O.length) (hp : p < O.length) (e : (nd O j).1.id = (nd O p).1.id) : j = p := by
  refine Classical.byContradiction fun c => ?_
  subst hO
  have hn : (M1.idsO (M1.forest S)).Nodup := M1.nd_for hS _ (Nat.le_refl _)
  unfold M1.idsO List.Nodup at hn
  rw [List.pairwise_map, List.pairwise_iff_getElem] at hn
  have g : ∀ x (hx : x < (M1.forest S).length), nd (M1.forest S) x = (M1.forest S)[x] := fun x hx => by
    have := nd_some hx
    rw [List.getElem?_eq_getElem hx] at this
    injection this with e2
    exact e2.symm
  rw [g j hj, g p hp] at e
  rcases Nat.lt_or_gt_of_ne c with h | h
  · exact hn j p hj hp h e
  · exact hn p j hp hj h e.symm
theorem nd_of {O : List (M1.Upd × Int)} {j : Nat} {r : M1.Upd × Int} (h : O[j]? = some r) : j < O.length ∧ nd O j = r := by
  have hj := (List.getElem?_eq_some_iff.1 h).1
  refine ⟨hj, ?_⟩
  have := nd_some hj
  rw [h] at this
  injection this with e
  exact e.symm
/-- The longest path of a forest that is not empty. -/
theorem lng_law {us : List M1.Upd} {tr : Int} {O : List (M1.Upd × Int)} {P : List Int} (hO : M1.fors us tr = O) (hP : M1.lngs us tr = P) (h0 : 0 < O.length) :
    ∃ (b D : Nat), b < O.length ∧ P.length = D + 1 ∧ (nd O b).2 = (D : Int) ∧ 0 ≤ (nd O b).1.en ∧ M1.lat O O.length = (nd O b).1.en ∧ (∀ k, k < O.length → ((nd O k).1.id = P.getD D 0 ↔ k = b)) ∧ ∀ k, k < O.length → ∀ i, 0 < i → i < P.length → (nd O k).1.id = P.getD i 0 → (nd O k).1.pa = P.getD (i - 1) 0 := by
  have hS := M1.sps_sorted us tr
  have hF : M1.forest (M1.sps us tr) = O := hO
  have hord : M1.Ord O := by rw [← hF]; exact M1.ord_forest _
  have hen : ∀ (k : Nat) (q : M1.Upd × Int), O[k]? = some q → 0 ≤ q.1.en := fun k q hq => M1.fors_en (us := us) (tr := tr) (k := k) (by rw [hO]; exact hq)
  obtain ⟨b, q, hb, hq, h1, h2⟩ := M1.lng_best hen O.length (Nat.le_refl _) h0
  have hPe : P = M1.pth O (b + 1) := by rw [← hP]; unfold M1.lngs; rw [hO]; exact h2
  obtain ⟨_, eb⟩ := nd_of hq
  have hl := M1.pth_len hord hq
  have hq0 := (hord b q hq).1
  have inv := M1.pth_inv hord (b + 1) (by omega)
  rw [← hPe] at inv hl
  have idOf : ∀ i, i < P.length → ∃ j, j < O.length ∧ (nd O j).2 = (i : Int) ∧ P.getD i 0 = (nd O j).1.id ∧ (0 < i → (nd O j).1.pa = P.getD (i - 1) 0) := fun i hi => by
    obtain ⟨j, r, a1, a2, a3, a4, a5, _⟩ := inv i hi
    obtain ⟨hj, ej⟩ := nd_of a2
    rw [← ej] at a3 a4 a5
    exact ⟨j, hj, a3, a4, a5⟩
  have hlast : P.getD q.2.toNat 0 = q.1.id := by
    rw [hPe, M1.pth_step hq, List.getD_eq_getElem?_getD, List.getElem?_append_right (by rw [List.length_take]; omega)]
    have := M1.pth_room hord hq
    rw [List.length_take, Nat.min_eq_left this]
    simp
  refine ⟨b, q.2.toNat, hb, hl, by rw [eb]; omega, by rw [eb]; exact hen b q hq, ?_, fun k hk => ?_, fun k hk i hi0 hi e => ?_⟩
  · unfold M1.lat
    rw [h1, eb]
    have := hen b q hq
    omega
  · rw [hlast]
    constructor
    · intro e
      refine nd_id hS hF hk hb ?_
      rw [eb]; exact e
    · intro e
      rw [e, eb]
  · obtain ⟨j, hj, _, b3, b4⟩ := idOf i hi
    rw [b3] at e
    rw [nd_id hS hF hk hj e]
    exact b4 hi0
end Go.Proofs.Ytdpeopmbboogaaa
