/-
  Texts of one proof, joined: Math31, Math32, Math33a, Rc2.
-/
import Derived.Test.YtbhidjagmonnaaaGreatDoorZSegments05
import Derived.Lib.Split
import Derived.Lib.IndexBytes
import Derived.Test.YtbhidjagmonnaaaGreatDoorZSegments00
import Derived.Test.YtbhidjagmonnaaaGreatDoorZSegments02
namespace M1
open Go
/-- Cut at each blank. -/
def spl : List UInt8 → List (List UInt8)
  | [] => [[]]
  | c :: t => if c = 32 then [] :: spl t else match spl t with
    | [] => [[c]]
    | w :: r => (c :: w) :: r
theorem spl_cons (c : UInt8) (t : List UInt8) : spl (c :: t) = if c = 32 then [] :: spl t else match spl t with
    | [] => [[c]]
    | w :: r => (c :: w) :: r := rfl
theorem spl_ne : ∀ l, spl l ≠ []
  | [] => by simp [spl]
  | c :: t => by
    unfold spl
    split
    · simp
    · split <;> simp
theorem spl_word : ∀ {a : List UInt8}, (∀ c ∈ a, ¬ c = 32) → spl a = [a]
  | [], _ => rfl
  | c :: t, h => by
    unfold spl
    rw [if_neg (h c List.mem_cons_self), spl_word fun x hx => h x (List.mem_cons_of_mem _ hx)]
theorem spl_app : ∀ {a : List UInt8} (b : List UInt8), (∀ c ∈ a, ¬ c = 32) → spl (a ++ 32 :: b) = a :: spl b
  | [], b, _ => by
    show spl (32 :: b) = _
    rw [spl_cons, if_pos rfl]
  | c :: t, b, h => by
    show spl (c :: (t ++ 32 :: b)) = _
    rw [spl_cons, if_neg (h c List.mem_cons_self), spl_app b fun x hx => h x (List.mem_cons_of_mem _ hx)]
theorem join_cons2 (x y : List UInt8) (r : List (List UInt8)) : Lib.join (x :: y :: r) [32] = x ++ 32 :: Lib.join (y :: r) [32] := by
  rw [Lib.join_cons, Lib.join_cons]
  simp [Lib.joinTail]
theorem join_spl : ∀ l, Lib.join (spl l) [32] = l
  | [] => by simp [spl, Lib.join_one]
  | c :: t => by
    have ih := join_spl t
    have hne := spl_ne t
    unfold spl
    by_cases hc : c = 32
    · rw [if_pos hc, hc]
      match hq : spl t, hne with
      | y :: r, _ =>
        rw [join_cons2, ← hq, ih]; rfl
    · rw [if_neg hc]
      match hq : spl t, hne with
      | w :: r, _ =>
        rw [hq] at ih
        show Lib.join ((c :: w) :: r) [32] = _
        rw [Lib.join_cons] at ih ⊢
        rw [← ih]; rfl
theorem spl_join : ∀ {ws : List (List UInt8)}, ws ≠ [] → (∀ w ∈ ws, ∀ c ∈ w, ¬ c = 32) → spl (Lib.join ws [32]) = ws
  | [], h, _ => absurd rfl h
  | [w], _, h => by rw [Lib.join_one]; exact spl_word (h w List.mem_cons_self)
  | x :: y :: r, _, h => by
    rw [join_cons2, spl_app _ (h x List.mem_cons_self), spl_join (by simp) fun w hw => h w (List.mem_cons_of_mem _ hw)]
theorem index_cons (c : UInt8) (t : List UInt8) : Lib.index (c :: t) [32] = if c = 32 then 0 else if Lib.index t [32] = -1 then -1 else Lib.index t [32] + 1 := by
  have e : Lib.index (c :: t) [32] = if ([32] : List UInt8).isPrefixOf (c :: t) then 0 else if Lib.index t [32] == -1 then -1 else Lib.index t [32] + 1 := rfl
  rw [e]
  by_cases h : c = 32
  · subst h; simp
  · have h2 : ¬ 32 = c := fun e => h e.symm
    simp [h, h2]
/-- The first blank. -/
theorem index_32 : ∀ l : List UInt8, (Lib.index l [32] = -1 ∧ ∀ c ∈ l, ¬ c = 32) ∨ ∃ a b, l = a ++ 32 :: b ∧ (∀ c ∈ a, ¬ c = 32) ∧ Lib.index l [32] = (a.length : Int)
  | [] => Or.inl ⟨by decide, fun _ h => by cases h⟩
  | c :: t => by
    rw [index_cons]
    by_cases hc : c = 32
    · right
      refine ⟨[], t, by rw [hc]; rfl, ?_, by rw [if_pos hc]; rfl⟩
      intro x hx
      cases hx
    · rw [if_neg hc]
      rcases index_32 t with ⟨h1, h2⟩ | ⟨a, b, h1, h2, h3⟩
      · left
        rw [if_pos h1]
        refine ⟨rfl, fun x hx => ?_⟩
        rcases List.mem_cons.1 hx with e | e
        · rw [e]; exact hc
        · exact h2 x e
      · right
        refine ⟨c :: a, b, by rw [h1]; rfl, fun x hx => ?_, ?_⟩
        · rcases List.mem_cons.1 hx with e | e
          · rw [e]; exact hc
          · exact h2 x e
        · rw [if_neg (by omega), h3]
          simp
theorem split_spl : ∀ (n : Nat) (l : List UInt8), l.length ≤ n → Lib.split l [32] = spl l := by
  intro n
  induction n with
  | zero =>
    intro l hl
    have e : l = [] := List.eq_nil_of_length_eq_zero (by omega)
    subst e
    rfl
  | succ n ih =>
    intro l hl
    rcases index_32 l with ⟨h1, h2⟩ | ⟨a, b, h1, h2, h3⟩
    · unfold Lib.split
      rw [Lib.count_miss h1, spl_word h2]
      rfl
    · have hd : l.drop (a.length + 1) = b := by rw [h1, show a.length + 1 = a.length + 1 from rfl, ← List.drop_drop]; simp
      have ht : l.take a.length = a := by rw [h1]; simp
      have ihb := ih b (by rw [h1] at hl; simp at hl; omega)
      unfold Lib.split at ihb ⊢
      rw [Lib.count_hit (by simp) h3]
      have hd' : l.drop (a.length + ([32] : List UInt8).length) = b := hd
      rw [hd', Nat.add_comm 1]
      unfold Lib.splitK
      have hm : ¬ (Lib.index l [32] == -1) = true := fun e => by have := beq_iff_eq.1 e; omega
      rw [if_neg hm, h3]
      have e1 : ((a.length : Int)).toNat = a.length := by simp
      rw [e1, Nat.add_zero, ht, hd', ihb, h1, spl_app b h2]
/-- No word of a right update's text has a blank. -/
theorem dcm_no32 {n : Int} (h : 0 ≤ n) : ∀ c ∈ dcm n, ¬ c = 32 := fun c hc e => by
  obtain ⟨k, rfl⟩ : ∃ k : Nat, n = k := ⟨n.toNat, by omega⟩
  rw [dcm_nat] at hc
  have := (dec_all k).1
  rw [List.all_eq_true] at this
  have h2 := digB_iff.1 (this c hc)
  rw [e] at h2
  exact absurd h2.1 (by decide)
theorem name_no32 {s : ByteArray} (h : nameB s = true) : ∀ c ∈ s.data.toList, ¬ c = 32 := fun c hc e => by
  unfold nameB allB at h
  simp only [Bool.and_eq_true, List.all_eq_true] at h
  have := h.2 c hc
  rw [e] at this
  exact absurd this (by decide)
theorem wrd_no32 {u : Upd} (h : okU u = true) : ∀ w ∈ wrd u, ∀ c ∈ w, ¬ c = 32 := by
  obtain ⟨t1, t2, t3, t4⟩ := okU_tens h
  obtain ⟨_, _, _, _, hkind⟩ := okU_fields h
  have hn : ∀ ns : List Int, (∀ n ∈ ns, tenD n) → ∀ w ∈ ns.map dcm, ∀ c ∈ w, ¬ c = 32 := fun ns hns w hw => by
    obtain ⟨n, hn, e⟩ := List.mem_map.1 hw
    rw [← e]; exact dcm_no32 (hns n hn).1
  intro w hw
  unfold wrd at hw
  split at hw
  · rename_i hk
    rcases List.mem_cons.1 hw with e | hw
    · rw [e]; decide
    · rcases List.mem_append.1 hw with hw | hw
      · rcases List.mem_append.1 hw with hw | hw
        · exact hn _ t1 w hw
        · exact hn _ (t2 hk) w hw
      · have e : w = u.s.data.toList := by simpa using hw
        rw [e]
        unfold kindB at hkind
        rw [if_pos hk] at hkind
        unfold spanB at hkind
        simp only [Bool.and_eq_true] at hkind
        exact name_no32 hkind.1.1.1.2
  · split at hw
    · rcases List.mem_cons.1 hw with e | hw
      · rw [e]; decide
      · exact hn _ t1 w hw
    · rename_i h1 h2
      rcases List.mem_cons.1 hw with e | hw
      · rw [e]; decide
      · rcases List.mem_append.1 hw with hw | hw
        · exact hn _ t1 w hw
        · refine hn [u.lv] (fun n hn => ?_) w hw
          have e : n = u.lv := by simpa using hn
          rw [e]
          exact t3 (by omega)
theorem wrd_ne (u : Upd) : wrd u ≠ [] := by
  unfold wrd
  split
  · simp
  · split <;> simp
/-- What the program reads. -/
def rdU (l : List UInt8) : Option Upd := rdW (spl l)
theorem rdU_iff {l : List UInt8} {u : Upd} : rdU l = some u ↔ okU u = true ∧ l = txt u := by
  constructor
  · intro h
    obtain ⟨h1, h2⟩ := rdW_some h
    refine ⟨h1, ?_⟩
    rw [← join_wrd, ← h2, join_spl]
  · rintro ⟨h1, h2⟩
    unfold rdU
    rw [h2, ← join_wrd, spl_join (wrd_ne u) (wrd_no32 h1)]
    exact rdW_wrd h1
theorem dcm_ten {n : Int} (h : tenD n) : (dcm n).length ≤ 10 := by
  obtain ⟨k, rfl⟩ : ∃ k : Nat, n = k := ⟨n.toNat, by have := h.1; omega⟩
  rw [dcm_nat]
  exact dec_len k 9 (by have := h.2; omega)
theorem row_ten : ∀ {ns : List Int}, (∀ n ∈ ns, tenD n) → (rowL ns).length ≤ 11 * ns.length
  | [], _ => by simp [rowL]
  | n :: t, h => by
    have h1 := row_ten (ns := t) fun x hx => h x (List.mem_cons_of_mem _ hx)
    have h3 := dcm_ten (h n List.mem_cons_self)
    have e : rowL (n :: t) = (32 :: dcm n) ++ rowL t := by simp [rowL]
    rw [e, List.length_append, List.length_cons, List.length_cons]
    omega
theorem txt_len {u : Upd} (h : okU u = true) : (txt u).length ≤ 200 := by
  obtain ⟨t1, t2, t3, t4⟩ := okU_tens h
  obtain ⟨_, _, _, _, hkind⟩ := okU_fields h
  have h5 := row_ten t1
  have l5 : (ns5 u).length = 5 := rfl
  unfold txt
  split
  · rename_i hk
    have h4 := row_ten (t2 hk)
    have hs : u.s.data.toList.length ≤ 12 := by
      unfold kindB at hkind
      rw [if_pos hk] at hkind
      unfold spanB nameB at hkind
      simp only [Bool.and_eq_true, decide_eq_true_eq] at hkind
      have := hkind.1.1.1.2.1.2
      have e : u.s.size = u.s.data.toList.length := by rw [Array.length_toList]; rfl
      omega
    simp only [List.length_append, List.length_cons]
    have : wSpan.length = 4 := rfl
    simp only [List.length_cons, List.length_nil] at h4
    omega
  · split
    · have : wKeep.length = 4 := rfl
      simp only [List.length_append]
      omega
    · have h4 := row_ten (ns := [u.lv]) fun n hn => by
        have e : n = u.lv := by simpa using hn
        rw [e]; exact t3 (by omega)
      have : wLife.length = 4 := rfl
      simp only [List.length_append]
      simp only [List.length_cons, List.length_nil] at h4
      omega
theorem txt_ne (u : Upd) : txt u ≠ [] := by
  unfold txt
  split
  · simp [wSpan]
  · split
    · simp [wKeep]
    · simp [wLife]
end M1

namespace M1
open Go
theorem get_list {s : ByteArray} {k : Nat} (h : k < s.size) : s.data.toList[k]? = some s[k] := by
  have e : s.size = s.data.size := rfl
  rw [e] at h
  rw [Array.getElem?_toList, Array.getElem?_eq_getElem h]
  rfl
theorem len_list (s : ByteArray) : s.data.toList.length = s.size := by rw [Array.length_toList]; rfl
theorem take_list {s : ByteArray} {k : Nat} (h : k < s.size) : s.data.toList.take (k + 1) = s.data.toList.take k ++ [s[k]] := by
  have hl : k < s.data.toList.length := by rw [len_list]; exact h
  rw [List.take_succ_eq_append_getElem hl]
  have := get_list h
  rw [List.getElem?_eq_getElem hl] at this
  injection this with e
  rw [e]
theorem val_step {s : ByteArray} {k : Nat} (h : k < s.size) : valL (s.data.toList.take (k + 1)) = valL (s.data.toList.take k) * 10 + (s[k].toNat - 48) := by
  rw [take_list h, valL_snoc]
theorem val_lt {s : ByteArray} : ∀ k, k ≤ s.size → (∀ j (hj : j < s.size), j < k → digB s[j] = true) → valL (s.data.toList.take k) < 10 ^ k
  | 0, _, _ => by simp [valL]
  | k + 1, hk, h => by
    have ih := val_lt k (by omega) fun j hj hjk => h j hj (by omega)
    rw [val_step (by omega), Nat.pow_succ]
    have := (digB_iff.1 (h k (by omega) (by omega))).2
    omega
theorem num_none {s : ByteArray} (h : s.size = 0) : numB s.data.toList = false := by
  unfold numB; rw [len_list, h]; rfl
theorem num_long {s : ByteArray} (h : 10 < s.size) : numB s.data.toList = false := by
  unfold numB; rw [len_list]
  have : decide (s.size ≤ 10) = false := by simp; omega
  rw [this]; simp
theorem num_nought {s : ByteArray} (h : 1 < s.size) (h0 : s[0].toNat = 48) : numB s.data.toList = false := by
  unfold numB; rw [len_list]
  have e1 : decide (s.size = 1) = false := by simp; omega
  have hc : s[0] = 48 := by
    have : s[0] = UInt8.ofNat s[0].toNat := by simp
    rw [this, h0]; rfl
  have e2 : s.data.toList.head? = some 48 := by
    rw [List.head?_eq_getElem?, get_list (by omega), hc]
  rw [e1, e2]; simp
theorem num_bad {s : ByteArray} {k : Nat} (hk : k < s.size) (h : digB s[k] = false) : numB s.data.toList = false := by
  unfold numB
  have e : s.data.toList.all digB = false := by
    rw [List.all_eq_false]
    exact ⟨s[k], List.mem_of_getElem? (get_list hk), by simp [h]⟩
  rw [e]; simp
theorem num_good {s : ByteArray} (h1 : 1 ≤ s.size) (h2 : s.size ≤ 10) (h3 : s.size = 1 ∨ ¬ ∃ h : 0 < s.size, s[0].toNat = 48) (h : ∀ j (hj : j < s.size), digB s[j] = true) : numB s.data.toList = true := by
  unfold numB; rw [len_list]
  have e : s.data.toList.all digB = true := by
    rw [List.all_eq_true]
    intro c hc
    obtain ⟨k, hk, e⟩ := List.getElem_of_mem hc
    have hk2 : k < s.size := by rw [← len_list]; exact hk
    have := get_list hk2
    rw [List.getElem?_eq_getElem hk] at this
    injection this with e2
    rw [← e, e2]; exact h k hk2
  rw [e]
  simp only [Bool.and_eq_true, decide_eq_true_eq, Bool.or_eq_true, Bool.not_eq_true', beq_eq_false_iff_ne, ne_eq]
  refine ⟨⟨⟨h1, h2⟩, trivial⟩, h3.imp id fun hn e => hn ⟨by omega, ?_⟩⟩
  rw [List.head?_eq_getElem?, get_list (by omega)] at e
  injection e with e
  rw [e]; rfl
theorem val_all (s : ByteArray) {k : Nat} (h : k = s.size) : valL (s.data.toList.take k) = valL s.data.toList := by
  rw [h, ← len_list, List.take_length]
/-- What the readers of a number answer. -/
def numV (s : ByteArray) : Int := if numB s.data.toList = true then (valL s.data.toList : Int) else 0
end M1

namespace M1
/-- The length that stands at a place. -/
def lnAt (s : ByteArray) (a : Nat) : Nat := (s.data.toList.getD a 0).toNat
def dataAt (s : ByteArray) (a : Nat) : ByteArray := s.extract (a + 5) (a + 5 + lnAt s a)
/-- A frame stands at a. -/
def Frm (s : ByteArray) (a : Nat) : Prop := a + 5 ≤ s.size ∧ lnAt s a ≤ 200 ∧ a + 5 + lnAt s a ≤ s.size ∧ sumT (dataAt s a) = s.extract (a + 1) (a + 5)
open Classical in
noncomputable def frU (s : ByteArray) (a : Nat) : Option Upd := if Frm s a then rdU (dataAt s a).data.toList else none
theorem frU_no {s : ByteArray} {a : Nat} (h : ¬ Frm s a) : frU s a = none := by unfold frU; rw [if_neg h]
theorem frU_yes {s : ByteArray} {a : Nat} (h : Frm s a) : frU s a = rdU (dataAt s a).data.toList := by unfold frU; rw [if_pos h]
theorem frU_some {s : ByteArray} {a : Nat} {u : Upd} (h : frU s a = some u) : Frm s a ∧ rdU (dataAt s a).data.toList = some u := by
  by_cases c : Frm s a
  · rw [frU_yes c] at h; exact ⟨c, h⟩
  · rw [frU_no c] at h; cases h
theorem ln_cut {s : ByteArray} {a : Nat} (h : a + 1 ≤ s.size) : ∃ x : ByteArray, s.extract a (a + 1) = x ∧ ∃ hx : 0 < x.size, x[0].toNat = lnAt s a := by
  refine ⟨_, rfl, by rw [ByteArray.size_extract]; omega, ?_⟩
  have h1 : (s.extract a (a + 1)).data.toList[0]? = some ((s.extract a (a + 1))[0]'(by rw [ByteArray.size_extract]; omega)) := get_list _
  have h2 : (s.extract a (a + 1)).data.toList[0]? = s.data.toList[a]? := by
    rw [ByteArray.data_extract]
    simp
  have h3 : s.data.toList[a]? = some (s[a]'(by omega)) := get_list _
  unfold lnAt
  rw [List.getD_eq_getElem?_getD, h3]
  rw [h2, h3] at h1
  injection h1 with h1
  rw [← h1]; rfl
theorem ln_get {s : ByteArray} {a : Nat} (h : a < s.size) : s[a].toNat = lnAt s a := by
  unfold lnAt
  rw [List.getD_eq_getElem?_getD, get_list h]; rfl
theorem ln_lt (s : ByteArray) (a : Nat) : lnAt s a < 256 := (s.data.toList.getD a 0).toNat_lt
end M1

namespace Go.Proofs.YtbhidjagmonnaaaGreatDoor
open Go.ChangeShapes Go.WideShapes Go.ChangeAt Go.RowKit
set_option linter.unusedSimpArgs false
set_option linter.unusedVariables false

theorem bytes_inj {x s : ByteArray} (h : x.toList = s.toList) : x = s := by
  rw [Go.ByteArray.toList_eq, Go.ByteArray.toList_eq] at h
  cases x; cases s
  exact congrArg ByteArray.mk (Array.toList_inj.1 h)

set_option maxHeartbeats 8000000 in
set_option maxRecDepth 100000 in
theorem frame_any (p : Nat) (s : ByteArray) (a : Nat) (w : World) (h : SRd w p s a) (hs : s.size ≤ maxLen) (ha : a ≤ s.size) :
    Calls Tryz.prog 84 #[.pointer (some ⟨p, 0, none⟩)] w fun e w' => Gr p w w' ∧ ((M1.Frm s a ∧ e = .returned (.string (M1.dataAt s a)) ∧ SRd w' p s (a + 5 + M1.lnAt s a)) ∨ (¬ M1.Frm s a ∧ Pnc e)) := by
  by_cases h1 : a + 1 ≤ s.size
  · obtain ⟨x, hx, hx0, hxl⟩ := M1.ln_cut h1
    have hln := M1.ln_lt s a
    have hxl2 : Hid (x[0].toNat = M1.lnAt s a) := hxl
    have hx0i : (0 : Int) < (x.size : Int) := by omega
    go_enter Tryz.func84, Tryz.ntmps84
    go_wp2_with fail
    refine (piece_yes p s a 1 _ h hs h1).mono ?_
    rw [hx]
    rintro e w1 ⟨rfl, r1, G1⟩
    obtain ⟨n, hn⟩ : ∃ n, Hid (M1.lnAt s a = n) := ⟨_, rfl⟩
    rw [hn.out] at hln hxl
    by_cases h2 : n ≤ 200
    · have d2 : decide ((n : Int) ≤ 200) = true := decide_eq_true (by omega)
      go_wp2_with fail
      refine (want_yes _ _).mono ?_
      rintro e w2 ⟨rfl, rfl⟩
      go_wp2_with fail
      by_cases h3 : a + 1 + 4 ≤ s.size
      · refine (piece_yes p s (a + 1) 4 _ r1 hs h3).mono ?_
        obtain ⟨y, hy⟩ : ∃ y, Hid (s.extract (a + 1) (a + 1 + 4) = y) := ⟨_, rfl⟩
        rw [hy.out]
        rintro e w3 ⟨rfl, r3, G3⟩
        have G3' := gr_trans G1 G3
        clear G3 G1 r1
        go_wp2_with fail
        by_cases h4 : a + 1 + 4 + n ≤ s.size
        · refine (piece_yes p s (a + 1 + 4) n _ r3 hs h4).mono ?_
          obtain ⟨z, hz⟩ : ∃ z, Hid (s.extract (a + 1 + 4) (a + 1 + 4 + n) = z) := ⟨_, rfl⟩
          rw [hz.out]
          rintro e w4 ⟨rfl, r4, G4⟩
          have G4' := gr_trans G3' G4
          clear G4 G3' r3
          have hzs : z.size ≤ maxLen := by rw [← hz.out, ByteArray.size_extract]; omega
          have hzd : Hid (M1.dataAt s a = z) := (by unfold M1.dataAt; rw [hn.out, ← hz.out] : _ = _)
          go_wp2_with fail
          refine (sumText_any z _ hzs).mono ?_
          rintro e w5 ⟨rfl, hb5⟩
          have G5 : Gr p w w5 := gr_trans G4' (gr_below hb5)
          have r5 : SRd w5 p s (a + 1 + 4 + n) := r4.below hb5
          clear G4' r4
          by_cases h5 : y.toList = (M1.sumT z).toList
          · have d5 : (y.toList == (M1.sumT z).toList) = true := by simpa using h5
            have HY : Hid (M1.Frm s a) := ⟨by omega, by rw [hn.out]; exact h2, by rw [hn.out]; omega, by rw [hzd.out, ← bytes_inj h5, ← hy.out]⟩
            clear h5
            go_wp2_with fail
            refine (want_yes _ _).mono ?_
            rintro e w6 ⟨rfl, rfl⟩
            go_wp2_with fail
            go_ret
            exact ⟨G5, .inl ⟨HY.out, (by rw [hzd.out]; rfl), by rw [hn.out]; exact r5⟩⟩
          · have d5 : (y.toList == (M1.sumT z).toList) = false := by simpa using h5
            have HN : Hid (¬ M1.Frm s a) := fun q => h5 (by have := q.2.2.2; rw [hzd.out] at this; rw [this, ← hy.out])
            clear h5
            go_wp2_with fail
            refine (want_no _ _).mono ?_
            rintro e w6 ⟨⟨t, v, rfl⟩, rfl⟩
            go_wp2_with fail
            exact ⟨rfl, G5, .inr ⟨HN.out, _, _, rfl⟩⟩
        · have HN : Hid (¬ M1.Frm s a) := fun q => h4 (by have := q.2.2.1; rw [hn.out] at this; omega)
          refine (piece_no p s (a + 1 + 4) n _ r3 hs h4 h3 (by omega)).mono ?_
          rintro e w4 ⟨⟨t, v, rfl⟩, G4⟩
          go_wp2_with fail
          exact ⟨rfl, gr_trans G3' G4, .inr ⟨HN.out, _, _, rfl⟩⟩
      · have HN : Hid (¬ M1.Frm s a) := fun q => h3 (by have := q.1; omega)
        refine (piece_no p s (a + 1) 4 _ r1 hs h3 h1 (by omega)).mono ?_
        rintro e w3 ⟨⟨t, v, rfl⟩, G3⟩
        go_wp2_with fail
        exact ⟨rfl, gr_trans G1 G3, .inr ⟨HN.out, _, _, rfl⟩⟩
    · have HN : Hid (¬ M1.Frm s a) := fun q => h2 (by have := q.2.1; rw [hn.out] at this; exact this)
      have d2 : decide ((n : Int) ≤ 200) = false := decide_eq_false (by omega)
      go_wp2_with fail
      refine (want_no _ _).mono ?_
      rintro e w2 ⟨⟨t, v, rfl⟩, rfl⟩
      go_wp2_with fail
      exact ⟨rfl, G1, .inr ⟨HN.out, _, _, rfl⟩⟩
  · have HN : Hid (¬ M1.Frm s a) := fun q => h1 (by have := q.1; omega)
    go_enter Tryz.func84, Tryz.ntmps84
    go_wp2_with fail
    refine (piece_no p s a 1 _ h hs h1 ha (by omega)).mono ?_
    rintro e w1 ⟨⟨t, v, rfl⟩, G1⟩
    go_wp2_with fail
    exact ⟨rfl, G1, .inr ⟨HN.out, _, _, rfl⟩⟩
end Go.Proofs.YtbhidjagmonnaaaGreatDoor
