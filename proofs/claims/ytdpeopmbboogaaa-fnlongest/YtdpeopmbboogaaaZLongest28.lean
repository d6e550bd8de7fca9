/-
  Plain mathematics of the forest: kids by start, and by number; a span with all below it; the forest.
-/
import Derived.Test.YtdpeopmbboogaaaZLongest27
namespace M1
/-- By start, of one start by number. -/
def stlt (a b : Upd) : Prop := a.st < b.st ∨ a.st = b.st ∧ a.id < b.id
def stB (a b : Upd) : Bool := decide (a.st < b.st) || (decide (a.st = b.st) && decide (a.id < b.id))
theorem stB_iff (a b : Upd) : stB a b = true ↔ stlt a b := by unfold stB stlt; simp
theorem st_irr (a : Upd) : ¬ stlt a a := by unfold stlt; omega
theorem st_trans {a b c : Upd} (h1 : stlt a b) (h2 : stlt b c) : stlt a c := by unfold stlt at *; omega
theorem st_asym {a b : Upd} (h1 : stlt a b) : ¬ stlt b a := by unfold stlt at *; omega
theorem st_tri {a b : Upd} (h : ¬ a.id = b.id) : stlt a b ∨ stlt b a := by unfold stlt; omega

def insSt (x : Upd) : List Upd → List Upd
  | [] => [x]
  | y :: t => if stB x y = true then x :: y :: t else y :: insSt x t
def bySt : List Upd → List Upd
  | [] => []
  | x :: t => insSt x (bySt t)
theorem insSt_perm (x : Upd) : ∀ l, (insSt x l).Perm (x :: l)
  | [] => List.Perm.refl _
  | y :: t => by
    unfold insSt
    split
    · exact List.Perm.refl _
    · exact ((insSt_perm x t).cons y).trans (List.Perm.swap x y t)
theorem bySt_perm : ∀ l, (bySt l).Perm l
  | [] => List.Perm.refl _
  | x :: t => (insSt_perm x (bySt t)).trans ((bySt_perm t).cons x)
theorem insSt_sorted {x : Upd} : ∀ {l : List Upd}, l.Pairwise stlt → (∀ y ∈ l, ¬ x.id = y.id) → (insSt x l).Pairwise stlt
  | [], _, _ => by simp [insSt]
  | y :: t, h, hn => by
    unfold insSt
    rw [List.pairwise_cons] at h
    split
    · rename_i c
      have c' := (stB_iff x y).1 c
      rw [List.pairwise_cons, List.pairwise_cons]
      refine ⟨fun z hz => ?_, h⟩
      rcases List.mem_cons.1 hz with e | hz
      · rw [e]; exact c'
      · exact st_trans c' (h.1 z hz)
    · rename_i c
      rw [List.pairwise_cons]
      refine ⟨fun z hz => ?_, insSt_sorted h.2 fun z hz => hn z (by simp [hz])⟩
      rcases List.mem_cons.1 ((insSt_perm x t).mem_iff.1 hz) with e | hz
      · rw [e]
        rcases st_tri (hn y (by simp)) with q | q
        · exact absurd ((stB_iff x y).2 q) c
        · exact q
      · exact h.1 z hz
theorem bySt_sorted : ∀ {S : List Upd}, ids S → (bySt S).Pairwise stlt
  | [], _ => List.Pairwise.nil
  | x :: t, h => by
    unfold ids at h
    rw [List.pairwise_cons] at h
    exact insSt_sorted (bySt_sorted h.2) fun y hy => h.1 y ((bySt_perm t).mem_iff.1 hy)
theorem st_unique : ∀ {a b : List Upd}, a.Pairwise stlt → b.Pairwise stlt → a.Perm b → a = b
  | [], b, _, _, h => (List.perm_nil.1 h.symm).symm
  | x :: a, [], _, _, h => by simp at h
  | x :: a, y :: b, ha, hb, h => by
    rw [List.pairwise_cons] at ha hb
    have hx : x = y := by
      rcases List.mem_cons.1 (h.mem_iff.1 (List.mem_cons_self (a := x) (l := a))) with e | e
      · exact e
      · rcases List.mem_cons.1 (h.mem_iff.2 (List.mem_cons_self (a := y) (l := b))) with e' | e'
        · exact e'.symm
        · exact absurd (hb.1 x e) (st_asym (ha.1 y e'))
    subst hx
    rw [st_unique ha.2 hb.2 (List.Perm.cons_inv h)]

/-- The kids of a span, in their order. -/
def kids (S : List Upd) (s : Upd) : List Upd := (bySt S).filter fun k => decide (k.pa = s.id)
theorem kids_mem {S : List Upd} {s k : Upd} : k ∈ kids S s ↔ k ∈ S ∧ k.pa = s.id := by
  unfold kids
  rw [List.mem_filter, (bySt_perm S).mem_iff]; simp
theorem kids_sorted {S : List Upd} (hS : S.Pairwise idlt) (s : Upd) : (kids S s).Pairwise stlt := (bySt_sorted (ids_of hS)).sublist List.filter_sublist
theorem kids_par {S : List Upd} (hS : S.Pairwise idlt) {s k : Upd} (hs : s ∈ S) (hk : k ∈ kids S s) : par S k = some s := by
  unfold par
  rw [(kids_mem.1 hk).2]; exact fj_mem hS hs

/-- The kid that comes next behind another one. -/
def lastB (last : Option Upd) (x : Upd) : Bool := match last with
  | none => true
  | some l => stB l x
def cand (p : Int) (last : Option Upd) (x : Upd) : Prop := x.pa = p ∧ ∀ l, last = some l → stlt l x
def nx (S : List Upd) (p : Int) (last : Option Upd) : Nat → Option Upd
  | 0 => none
  | k + 1 => if (up S k).pa = p ∧ lastB last (up S k) = true then
      (match nx S p last k with
        | none => some (up S k)
        | some b => if stB (up S k) b = true then some (up S k) else some b)
    else nx S p last k
theorem cand_iff {p : Int} {last : Option Upd} {x : Upd} : (x.pa = p ∧ lastB last x = true) ↔ cand p last x := by
  unfold cand lastB
  cases last with
  | none => simp
  | some l => simp [stB_iff]
theorem nx_char {S : List Upd} {p : Int} {last : Option Upd} : ∀ k, (nx S p last k = none ∧ ∀ i, i < k → ¬ cand p last (up S i)) ∨ ∃ b, nx S p last k = some b ∧ (∃ i, i < k ∧ b = up S i) ∧ cand p last b ∧ ∀ i, i < k → cand p last (up S i) → ¬ stlt (up S i) b
  | 0 => Or.inl ⟨rfl, fun i hi => absurd hi (Nat.not_lt_zero _)⟩
  | k + 1 => by
    have ih := nx_char (S := S) (p := p) (last := last) k
    by_cases c : cand p last (up S k)
    · have c' := cand_iff.2 c
      rcases ih with ⟨h1, h2⟩ | ⟨b, h1, ⟨j, hj, e⟩, h3, h4⟩
      · refine Or.inr ⟨up S k, ?_, ⟨k, by omega, rfl⟩, c, fun i hi hc => ?_⟩
        · unfold nx; rw [if_pos c', h1]
        · by_cases q : i = k
          · rw [q]; exact st_irr _
          · exact absurd hc (h2 i (by omega))
      · by_cases q : stB (up S k) b = true
        · refine Or.inr ⟨up S k, ?_, ⟨k, by omega, rfl⟩, c, fun i hi hc hl => ?_⟩
          · unfold nx; rw [if_pos c', h1]; simp only [if_pos q]
          · by_cases e2 : i = k
            · rw [e2] at hl; exact st_irr _ hl
            · exact h4 i (by omega) hc (st_trans hl ((stB_iff _ _).1 q))
        · refine Or.inr ⟨b, ?_, ⟨j, by omega, e⟩, h3, fun i hi hc hl => ?_⟩
          · unfold nx; rw [if_pos c', h1]; simp only [if_neg q]
          · by_cases e2 : i = k
            · rw [e2] at hl; exact q ((stB_iff _ _).2 hl)
            · exact h4 i (by omega) hc hl
    · have hstep : nx S p last (k + 1) = nx S p last k := by
        have : ¬ ((up S k).pa = p ∧ lastB last (up S k) = true) := fun q => c (cand_iff.1 q)
        show (if _ then _ else _) = _
        rw [if_neg this]
      rcases ih with ⟨h1, h2⟩ | ⟨b, h1, ⟨j, hj, e⟩, h3, h4⟩
      · refine Or.inl ⟨by rw [hstep]; exact h1, fun i hi => ?_⟩
        by_cases q : i = k
        · rw [q]; exact c
        · exact h2 i (by omega)
      · refine Or.inr ⟨b, by rw [hstep]; exact h1, ⟨j, by omega, e⟩, h3, fun i hi hc => ?_⟩
        by_cases q : i = k
        · rw [q] at hc; exact absurd hc c
        · exact h4 i (by omega) hc
/-- The i-th kid's place told as 'the one behind the kid ahead of it'. -/
def lastK (S : List Upd) (s : Upd) : Nat → Option Upd
  | 0 => none
  | i + 1 => some (up (kids S s) i)
theorem in_up {S : List Upd} {x : Upd} (h : x ∈ S) : ∃ i, i < S.length ∧ x = up S i := by
  obtain ⟨i, hi, e⟩ := List.getElem_of_mem h
  exact ⟨i, hi, by rw [← e]; simp [up, List.getD, hi]⟩
theorem up_in {S : List Upd} {i : Nat} (h : i < S.length) : up S i ∈ S := by
  have : up S i = S[i] := by simp [up, List.getD, h]
  rw [this]; exact List.getElem_mem h
theorem kid_lt {S : List Upd} (hS : S.Pairwise idlt) (s : Upd) {i j : Nat} (hij : i < j) (hj : j < (kids S s).length) : stlt (up (kids S s) i) (up (kids S s) j) := by
  have h := kids_sorted hS s
  rw [List.pairwise_iff_getElem] at h
  have := h i j (by omega) hj hij
  have e1 : up (kids S s) i = (kids S s)[i] := by simp [up, List.getD, show i < (kids S s).length by omega]
  have e2 : up (kids S s) j = (kids S s)[j] := by simp [up, List.getD, hj]
  rw [e1, e2]; exact this
theorem cand_kid {S : List Upd} (hS : S.Pairwise idlt) {s : Upd} {i : Nat} (hi : i ≤ (kids S s).length) {x : Upd} (hx : x ∈ S) : cand s.id (lastK S s i) x ↔ ∃ j, i ≤ j ∧ j < (kids S s).length ∧ x = up (kids S s) j := by
  constructor
  · intro h
    obtain ⟨j, hj, e⟩ := in_up (kids_mem.2 ⟨hx, h.1⟩)
    refine ⟨j, ?_, hj, e⟩
    cases i with
    | zero => omega
    | succ i =>
      have hl := h.2 _ rfl
      rw [e] at hl
      by_cases c : i + 1 ≤ j
      · exact c
      · exfalso
        by_cases q : j = i
        · rw [q] at hl; exact st_irr _ hl
        · exact st_asym hl (kid_lt hS s (i := j) (j := i) (by omega) (by omega))
  · rintro ⟨j, h1, h2, e⟩
    have hm := kids_mem.1 (up_in h2)
    rw [e]
    refine ⟨hm.2, fun l hl => ?_⟩
    cases i with
    | zero => cases hl
    | succ i =>
      injection hl with hl
      rw [← hl]; exact kid_lt hS s (by omega) h2
theorem nx_kid {S : List Upd} (hS : S.Pairwise idlt) {s : Upd} {i : Nat} (hi : i ≤ (kids S s).length) : nx S s.id (lastK S s i) S.length = if i < (kids S s).length then some (up (kids S s) i) else none := by
  rcases nx_char (S := S) (p := s.id) (last := lastK S s i) S.length with ⟨h1, h2⟩ | ⟨b, h1, ⟨j, hj, e⟩, h3, h4⟩
  · rw [h1]
    by_cases c : i < (kids S s).length
    · exfalso
      obtain ⟨q, hq, e⟩ := in_up (kids_mem.1 (up_in c)).1
      refine h2 q hq ?_
      rw [← e]
      exact (cand_kid hS hi (kids_mem.1 (up_in c)).1).2 ⟨i, Nat.le_refl _, c, rfl⟩
    · rw [if_neg c]
  · rw [h1]
    have hb : b ∈ S := by rw [e]; exact up_in hj
    obtain ⟨q, hq1, hq2, eq⟩ := (cand_kid hS hi hb).1 h3
    have c : i < (kids S s).length := by omega
    rw [if_pos c]
    congr 1
    by_cases d : q = i
    · rw [eq, d]
    · exfalso
      have hiS := (kids_mem.1 (up_in c)).1
      obtain ⟨p, hp, ep⟩ := in_up hiS
      refine h4 p hp ?_ ?_
      · rw [← ep]; exact (cand_kid hS hi hiS).2 ⟨i, Nat.le_refl _, c, rfl⟩
      · rw [← ep, eq]; exact kid_lt hS s (by omega) hq2

/-- A span and all below it, with how deep each is. -/
def growF (S : List Upd) : Nat → Upd → Int → List (Upd × Int)
  | 0, _, _ => []
  | f + 1, s, d => (s, d) :: (kids S s).flatMap fun k => if rootB S k = true then [] else growF S f k (d + 1)
/-- What the first i kids give. -/
def kidsTo (S : List Upd) (f : Nat) (s : Upd) (d : Int) (i : Nat) : List (Upd × Int) := ((kids S s).take i).flatMap fun k => if rootB S k = true then [] else growF S f k (d + 1)
theorem kidsTo_step {S : List Upd} {f : Nat} {s : Upd} {d : Int} {i : Nat} (hi : i < (kids S s).length) : kidsTo S f s d (i + 1) = kidsTo S f s d i ++ (if rootB S (up (kids S s) i) = true then [] else growF S f (up (kids S s) i) (d + 1)) := by
  unfold kidsTo
  rw [List.take_succ_eq_append_getElem hi, List.flatMap_append]
  have e : up (kids S s) i = (kids S s)[i] := by simp [up, List.getD, hi]
  rw [e]; simp
theorem growF_all (S : List Upd) (f : Nat) (s : Upd) (d : Int) : growF S (f + 1) s d = (s, d) :: kidsTo S f s d (kids S s).length := by
  unfold kidsTo
  rw [List.take_length]; rfl
theorem grow_mem {S : List Upd} (hS : S.Pairwise idlt) : ∀ {f : Nat} {s : Upd} {d : Int} {q : Upd × Int}, s ∈ S → q ∈ growF S f s d → q.1 ∈ S ∧ ∃ j, Sub S s q.1 j
  | 0, s, d, q, _, h => by cases h
  | f + 1, s, d, q, hs, h => by
    have h' : q = (s, d) ∨ q ∈ (kids S s).flatMap fun k => if rootB S k = true then [] else growF S f k (d + 1) := List.mem_cons.1 h
    rcases h' with e | h'
    · rw [e]; exact ⟨hs, 0, sub_refl S s⟩
    · obtain ⟨k, hk, hq⟩ := List.mem_flatMap.1 h'
      by_cases c : rootB S k = true
      · rw [if_pos c] at hq; cases hq
      · rw [if_neg c] at hq
        obtain ⟨h1, j, hj⟩ := grow_mem hS (kids_mem.1 hk).1 hq
        exact ⟨h1, j + 1, sub_step hj (kids_par hS hs hk) (by simpa using c)⟩
theorem kidsTo_mem {S : List Upd} (hS : S.Pairwise idlt) {f : Nat} {s : Upd} {d : Int} {i : Nat} {q : Upd × Int} (hi : i ≤ (kids S s).length) (h : q ∈ kidsTo S f s d i) : ∃ j, j < i ∧ rootB S (up (kids S s) j) = false ∧ q.1 ∈ S ∧ ∃ a, Sub S (up (kids S s) j) q.1 a := by
  obtain ⟨k, hk, hq⟩ := List.mem_flatMap.1 h
  obtain ⟨j, hj, e⟩ := List.getElem_of_mem hk
  rw [List.length_take] at hj
  rw [List.getElem_take] at e
  have e2 : up (kids S s) j = k := by rw [← e]; simp [up, List.getD, show j < (kids S s).length by omega]
  by_cases c : rootB S k = true
  · rw [if_pos c] at hq; cases hq
  · rw [if_neg c] at hq
    have hkS := (kids_mem.1 (up_in (show j < (kids S s).length by omega))).1
    rw [e2] at hkS
    obtain ⟨h1, a, ha⟩ := grow_mem hS hkS hq
    exact ⟨j, by omega, by rw [e2]; simpa using c, h1, a, by rw [e2]; exact ha⟩

/-- What is there when a span is put: nothing of what stands below it; the root that it stands below, if it is not that root. -/
structure Pre (S : List Upd) (r s : Upd) (d : Nat) (O : List (Upd × Int)) : Prop where
  sS : s ∈ S
  rr : rootB S r = true
  sub : Sub S r s d
  no : ∀ q ∈ O, q.1 ∈ S ∧ ∀ j, ¬ Sub S s q.1 j
  yes : s = r ∨ ∃ q ∈ O, q.1 = r
theorem Pre.out {S : List Upd} {r s : Upd} {d : Nat} {O : List (Upd × Int)} (h : Pre S r s d O) : ∀ q ∈ O, ¬ q.1.id = s.id ∨ ¬ S.Pairwise idlt := fun q hq => by
  by_cases hS : S.Pairwise idlt
  · left
    intro e
    have := id_inj hS (h.no q hq).1 h.sS e
    exact (h.no q hq).2 0 (by rw [this]; exact sub_refl S s)
  · exact Or.inr hS
theorem pre_kid {S : List Upd} (hS : S.Pairwise idlt) {r s : Upd} {d f : Nat} {D : Int} {O : List (Upd × Int)} (h : Pre S r s d O) {i : Nat} (hi : i < (kids S s).length) (hk : rootB S (up (kids S s) i) = false) :
    Pre S r (up (kids S s) i) (d + 1) (O ++ (s, D) :: kidsTo S f s D i) := by
  have hkm := up_in hi
  have hkS := (kids_mem.1 hkm).1
  have hp := kids_par hS h.sS hkm
  refine ⟨hkS, h.rr, ?_, fun q hq => ?_, Or.inr ?_⟩
  · refine ⟨by rw [itr_succ hp]; exact h.sub.1, fun j y hj hy => ?_⟩
    cases j with
    | zero =>
      have : up (kids S s) i = y := by simpa [itr] using hy
      rw [← this]; exact hk
    | succ j => rw [itr_succ hp] at hy; exact h.sub.2 j y (by omega) hy
  · rcases List.mem_append.1 hq with hq | hq
    · exact ⟨(h.no q hq).1, fun j hj => (h.no q hq).2 (j + 1) (sub_step hj hp hk)⟩
    · rcases List.mem_cons.1 hq with e | hq
      · rw [e]; exact ⟨h.sS, fun j hj => no_round hS h.sS hp hk hj⟩
      · obtain ⟨j, hj, hr, hqS, a, ha⟩ := kidsTo_mem hS (by omega) hq
        refine ⟨hqS, fun b hb => ?_⟩
        have hjm := up_in (show j < (kids S s).length by omega)
        have e := sub_one hS h.sS (kids_par hS h.sS hjm) hp hr hk ha hb
        exact st_irr _ (by have := kid_lt hS s hj hi; rw [e] at this; exact this)
  · rcases h.yes with e | ⟨q, hq, e⟩
    · exact ⟨(s, D), by simp, e⟩
    · exact ⟨q, by simp [hq], e⟩
theorem root_kid {S : List Upd} (hS : S.Pairwise idlt) {r s : Upd} {d f : Nat} {D : Int} {O : List (Upd × Int)} (h : Pre S r s d O) {i : Nat} (hi : i < (kids S s).length) (hk : rootB S (up (kids S s) i) = true) :
    ∃ q ∈ O ++ (s, D) :: kidsTo S f s D i, q.1.id = (up (kids S s) i).id := by
  have hkm := up_in hi
  have e := kid_root hS h.sS (kids_mem.1 hkm).1 hk (kids_par hS h.sS hkm) h.rr h.sub
  rcases h.yes with e2 | ⟨q, hq, e2⟩
  · exact ⟨(s, D), by simp, by rw [e, ← e2]⟩
  · exact ⟨q, by simp [hq], by rw [e, e2]⟩

/-- The forest of the first i spans' roots. -/
def forTo (S : List Upd) (i : Nat) : List (Upd × Int) := (S.take i).flatMap fun s => if rootB S s = true then growF S S.length s 0 else []
def forest (S : List Upd) : List (Upd × Int) := forTo S S.length
theorem forTo_step {S : List Upd} {i : Nat} (hi : i < S.length) : forTo S (i + 1) = forTo S i ++ (if rootB S (up S i) = true then growF S S.length (up S i) 0 else []) := by
  unfold forTo
  rw [List.take_succ_eq_append_getElem hi, List.flatMap_append]
  have e : up S i = S[i] := by simp [up, List.getD, hi]
  rw [e]; simp
theorem pre_root {S : List Upd} (hS : S.Pairwise idlt) {i : Nat} (hi : i < S.length) (hr : rootB S (up S i) = true) : Pre S (up S i) (up S i) 0 (forTo S i) := by
  refine ⟨up_in hi, hr, sub_refl S _, fun q hq => ?_, Or.inl rfl⟩
  obtain ⟨s, hs, h⟩ := List.mem_flatMap.1 hq
  obtain ⟨j, hj, e⟩ := List.getElem_of_mem hs
  rw [List.length_take] at hj
  rw [List.getElem_take] at e
  have e2 : up S j = s := by rw [← e]; simp [up, List.getD, show j < S.length by omega]
  by_cases c : rootB S s = true
  · rw [if_pos c] at h
    have hsS : s ∈ S := by rw [← e2]; exact up_in (by omega)
    obtain ⟨h1, a, ha⟩ := grow_mem hS hsS h
    refine ⟨h1, fun b hb => ?_⟩
    have := (sub_root c hr ha hb).1
    rw [List.pairwise_iff_getElem] at hS
    have hlt := hS j i (by omega) hi (by omega)
    have e3 : up S i = S[i] := by simp [up, List.getD, hi]
    rw [e, this, e3] at hlt
    unfold idlt at hlt; omega
  · rw [if_neg c] at h; cases h
end M1
