/-
  Plain mathematics of a text cut at its blanks.
-/
import Derived.Test.YtjgcjopijblpkaaDoorMath30
import Derived.Lib.Split
import Derived.Lib.IndexBytes
namespace M1
open Go
/-- Cut at each blank. -/
def spl : List UInt8 → List (List UInt8)
  | [] => [[]]
  | c :: t => if c = 32 then [] :: spl t else match spl t with
    | [] => [[c]]
    | w :: r => (c :: w) :: r
theorem spl_cons (c : UInt8) (t : List UInt8) : spl (c :: t) = if c = 32 then [] :: spl t else match spl t with
    | [] => [[c]]
    | w :: r => (c :: w) :: r := rfl
theorem spl_ne : ∀ l, spl l ≠ []
  | [] => by simp [spl]
  | c :: t => by
    unfold spl
    split
    · simp
    · split <;> simp
theorem spl_word : ∀ {a : List UInt8}, (∀ c ∈ a, ¬ c = 32) → spl a = [a]
  | [], _ => rfl
  | c :: t, h => by
    unfold spl
    rw [if_neg (h c List.mem_cons_self), spl_word fun x hx => h x (List.mem_cons_of_mem _ hx)]
theorem spl_app : ∀ {a : List UInt8} (b : List UInt8), (∀ c ∈ a, ¬ c = 32) → spl (a ++ 32 :: b) = a :: spl b
  | [], b, _ => by
    show spl (32 :: b) = _
    rw [spl_cons, if_pos rfl]
  | c :: t, b, h => by
    show spl (c :: (t ++ 32 :: b)) = _
    rw [spl_cons, if_neg (h c List.mem_cons_self), spl_app b fun x hx => h x (List.mem_cons_of_mem _ hx)]
theorem join_cons2 (x y : List UInt8) (r : List (List UInt8)) : Lib.join (x :: y :: r) [32] = x ++ 32 :: Lib.join (y :: r) [32] := by
  rw [Lib.join_cons, Lib.join_cons]
  simp [Lib.joinTail]
theorem join_spl : ∀ l, Lib.join (spl l) [32] = l
  | [] => by simp [spl, Lib.join_one]
  | c :: t => by
    have ih := join_spl t
    have hne := spl_ne t
    unfold spl
    by_cases hc : c = 32
    · rw [if_pos hc, hc]
      match hq : spl t, hne with
      | y :: r, _ =>
        rw [join_cons2, ← hq, ih]; rfl
    · rw [if_neg hc]
      match hq : spl t, hne with
      | w :: r, _ =>
        rw [hq] at ih
        show Lib.join ((c :: w) :: r) [32] = _
        rw [Lib.join_cons] at ih ⊢
        rw [← ih]; rfl
theorem spl_join : ∀ {ws : List (List UInt8)}, ws ≠ [] → (∀ w ∈ ws, ∀ c ∈ w, ¬ c = 32) → spl (Lib.join ws [32]) = ws
  | [], h, _ => absurd rfl h
  | [w], _, h => by rw [Lib.join_one]; exact spl_word (h w List.mem_cons_self)
  | x :: y :: r, _, h => by
    rw [join_cons2, spl_app _ (h x List.mem_cons_self), spl_join (by simp) fun w hw => h w (List.mem_cons_of_mem _ hw)]
theorem index_cons (c : UInt8) (t : List UInt8) : Lib.index (c :: t) [32] = if c = 32 then 0 else if Lib.index t [32] = -1 then -1 else Lib.index t [32] + 1 := by
  have e : Lib.index (c :: t) [32] = if ([32] : List UInt8).isPrefixOf (c :: t) then 0 else if Lib.index t [32] == -1 then -1 else Lib.index t [32] + 1 := rfl
  rw [e]
  by_cases h : c = 32
  · subst h; simp
  · have h2 : ¬ 32 = c := fun e => h e.symm
    simp [h, h2]
/-- The first blank. -/
theorem index_32 : ∀ l : List UInt8, (Lib.index l [32] = -1 ∧ ∀ c ∈ l, ¬ c = 32) ∨ ∃ a b, l = a ++ 32 :: b ∧ (∀ c ∈ a, ¬ c = 32) ∧ Lib.index l [32] = (a.length : Int)
  | [] => Or.inl ⟨by decide, fun _ h => by cases h⟩
  | c :: t => by
    rw [index_cons]
    by_cases hc : c = 32
    · right
      refine ⟨[], t, by rw [hc]; rfl, ?_, by rw [if_pos hc]; rfl⟩
      intro x hx
      cases hx
    · rw [if_neg hc]
      rcases index_32 t with ⟨h1, h2⟩ | ⟨a, b, h1, h2, h3⟩
      · left
        rw [if_pos h1]
        refine ⟨rfl, fun x hx => ?_⟩
        rcases List.mem_cons.1 hx with e | e
        · rw [e]; exact hc
        · exact h2 x e
      · right
        refine ⟨c :: a, b, by rw [h1]; rfl, fun x hx => ?_, ?_⟩
        · rcases List.mem_cons.1 hx with e | e
          · rw [e]; exact hc
          · exact h2 x e
        · rw [if_neg (by omega), h3]
          simp
theorem split_spl : ∀ (n : Nat) (l : List UInt8), l.length ≤ n → Lib.split l [32] = spl l := by
  intro n
  induction n with
  | zero =>
    intro l hl
    have e : l = [] := List.eq_nil_of_length_eq_zero (by omega)
    subst e
    rfl
  | succ n ih =>
    intro l hl
    rcases index_32 l with ⟨h1, h2⟩ | ⟨a, b, h1, h2, h3⟩
    · unfold Lib.split
      rw [Lib.count_miss h1, spl_word h2]
      rfl
    · have hd : l.drop (a.length + 1) = b := by rw [h1, show a.length + 1 = a.length + 1 from rfl, ← List.drop_drop]; simp
      have ht : l.take a.length = a := by rw [h1]; simp
      have ihb := ih b (by rw [h1] at hl; simp at hl; omega)
      unfold Lib.split at ihb ⊢
      rw [Lib.count_hit (by simp) h3]
      have hd' : l.drop (a.length + ([32] : List UInt8).length) = b := hd
      rw [hd', Nat.add_comm 1]
      unfold Lib.splitK
      have hm : ¬ (Lib.index l [32] == -1) = true := fun e => by have := beq_iff_eq.1 e; omega
      rw [if_neg hm, h3]
      have e1 : ((a.length : Int)).toNat = a.length := by simp
      rw [e1, Nat.add_zero, ht, hd', ihb, h1, spl_app b h2]
/-- No word of a right update's text has a blank. -/
theorem dcm_no32 {n : Int} (h : 0 ≤ n) : ∀ c ∈ dcm n, ¬ c = 32 := fun c hc e => by
  obtain ⟨k, rfl⟩ : ∃ k : Nat, n = k := ⟨n.toNat, by omega⟩
  rw [dcm_nat] at hc
  have := (dec_all k).1
  rw [List.all_eq_true] at this
  have h2 := digB_iff.1 (this c hc)
  rw [e] at h2
  exact absurd h2.1 (by decide)
theorem name_no32 {s : ByteArray} (h : nameB s = true) : ∀ c ∈ s.data.toList, ¬ c = 32 := fun c hc e => by
  unfold nameB allB at h
  simp only [Bool.and_eq_true, List.all_eq_true] at h
  have := h.2 c hc
  rw [e] at this
  exact absurd this (by decide)
theorem wrd_no32 {u : Upd} (h : okU u = true) : ∀ w ∈ wrd u, ∀ c ∈ w, ¬ c = 32 := by
  obtain ⟨t1, t2, t3, t4⟩ := okU_tens h
  obtain ⟨_, _, _, _, hkind⟩ := okU_fields h
  have hn : ∀ ns : List Int, (∀ n ∈ ns, tenD n) → ∀ w ∈ ns.map dcm, ∀ c ∈ w, ¬ c = 32 := fun ns hns w hw => by
    obtain ⟨n, hn, e⟩ := List.mem_map.1 hw
    rw [← e]; exact dcm_no32 (hns n hn).1
  intro w hw
  unfold wrd at hw
  split at hw
  · rename_i hk
    rcases List.mem_cons.1 hw with e | hw
    · rw [e]; decide
    · rcases List.mem_append.1 hw with hw | hw
      · rcases List.mem_append.1 hw with hw | hw
        · exact hn _ t1 w hw
        · exact hn _ (t2 hk) w hw
      · have e : w = u.s.data.toList := by simpa using hw
        rw [e]
        unfold kindB at hkind
        rw [if_pos hk] at hkind
        unfold spanB at hkind
        simp only [Bool.and_eq_true] at hkind
        exact name_no32 hkind.1.1.1.2
  · split at hw
    · rcases List.mem_cons.1 hw with e | hw
      · rw [e]; decide
      · exact hn _ t1 w hw
    · rename_i h1 h2
      rcases List.mem_cons.1 hw with e | hw
      · rw [e]; decide
      · rcases List.mem_append.1 hw with hw | hw
        · exact hn _ t1 w hw
        · refine hn [u.lv] (fun n hn => ?_) w hw
          have e : n = u.lv := by simpa using hn
          rw [e]
          exact t3 (by omega)
theorem wrd_ne (u : Upd) : wrd u ≠ [] := by
  unfold wrd
  split
  · simp
  · split <;> simp
/-- What the program reads. -/
def rdU (l : List UInt8) : Option Upd := rdW (spl l)
theorem rdU_iff {l : List UInt8} {u : Upd} : rdU l = some u ↔ okU u = true ∧ l = txt u := by
  constructor
  · intro h
    obtain ⟨h1, h2⟩ := rdW_some h
    refine ⟨h1, ?_⟩
    rw [← join_wrd, ← h2, join_spl]
  · rintro ⟨h1, h2⟩
    unfold rdU
    rw [h2, ← join_wrd, spl_join (wrd_ne u) (wrd_no32 h1)]
    exact rdW_wrd h1
theorem dcm_ten {n : Int} (h : tenD n) : (dcm n).length ≤ 10 := by
  obtain ⟨k, rfl⟩ : ∃ k : Nat, n = k := ⟨n.toNat, by have := h.1; omega⟩
  rw [dcm_nat]
  exact dec_len k 9 (by have := h.2; omega)
theorem row_ten : ∀ {ns : List Int}, (∀ n ∈ ns, tenD n) → (rowL ns).length ≤ 11 * ns.length
  | [], _ => by simp [rowL]
  | n :: t, h => by
    have h1 := row_ten (ns := t) fun x hx => h x (List.mem_cons_of_mem _ hx)
    have h3 := dcm_ten (h n List.mem_cons_self)
    have e : rowL (n :: t) = (32 :: dcm n) ++ rowL t := by simp [rowL]
    rw [e, List.length_append, List.length_cons, List.length_cons]
    omega
theorem txt_len {u : Upd} (h : okU u = true) : (txt u).length ≤ 200 := by
  obtain ⟨t1, t2, t3, t4⟩ := okU_tens h
  obtain ⟨_, _, _, _, hkind⟩ := okU_fields h
  have h5 := row_ten t1
  have l5 : (ns5 u).length = 5 := rfl
  unfold txt
  split
  · rename_i hk
    have h4 := row_ten (t2 hk)
    have hs : u.s.data.toList.length ≤ 12 := by
      unfold kindB at hkind
      rw [if_pos hk] at hkind
      unfold spanB nameB at hkind
      simp only [Bool.and_eq_true, decide_eq_true_eq] at hkind
      have := hkind.1.1.1.2.1.2
      have e : u.s.size = u.s.data.toList.length := by rw [Array.length_toList]; rfl
      omega
    simp only [List.length_append, List.length_cons]
    have : wSpan.length = 4 := rfl
    simp only [List.length_cons, List.length_nil] at h4
    omega
  · split
    · have : wKeep.length = 4 := rfl
      simp only [List.length_append]
      omega
    · have h4 := row_ten (ns := [u.lv]) fun n hn => by
        have e : n = u.lv := by simpa using hn
        rw [e]; exact t3 (by omega)
      have : wLife.length = 4 := rfl
      simp only [List.length_append]
      simp only [List.length_cons, List.length_nil] at h4
      omega
theorem txt_ne (u : Upd) : txt u ≠ [] := by
  unfold txt
  split
  · simp [wSpan]
  · split
    · simp [wKeep]
    · simp [wLife]
end M1
