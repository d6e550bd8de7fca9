/-
  Texts of one proof, joined: Math3, Math4, Math5, Math28, Math29.
-/
import Derived.Test.YtbhidjagmonnaaaGreatDoorZSegments03
import Derived.Lib.ItoaMem
import Derived.Lib.Join
import Derived.Laws.Strings
namespace M1

/-- A small letter. -/
def letB (c : UInt8) : Bool := decide (97 ≤ (c.toNat : Int)) && decide ((c.toNat : Int) ≤ 122)
def allB (s : ByteArray) : Bool := s.data.toList.all letB
def nameB (s : ByteArray) : Bool := (decide (1 ≤ s.size) && decide (s.size ≤ 12)) && allB s

theorem allB_yes {s : ByteArray} (h : ∀ j (hj : j < s.size), letB s[j] = true) : allB s = true := by
  unfold allB
  rw [List.all_eq_true]
  intro x hx
  obtain ⟨j, hj, rfl⟩ := List.mem_iff_getElem.1 hx
  have h2 : letB s.data[j] = true := h j (by simpa using hj)
  simpa using h2
theorem allB_no {s : ByteArray} {j : Nat} (hj : j < s.size) (h : letB s[j] = false) : allB s = false := by
  unfold allB
  rw [List.all_eq_false]
  refine ⟨s[j], ?_, by simp [h]⟩
  show s.data[j] ∈ _
  simp
def spanB (id parent : Int) (s : ByteArray) (start fin : Int) : Bool :=
  inB id 1 1000 && inB parent 0 1000 && (parent != id) && nameB s && inB start 0 1000000000 && inB fin start 1000000000
theorem spanB_eq (id parent : Int) (s : ByteArray) (start fin : Int) : spanB id parent s start fin =
    (inB id 1 1000 && inB parent 0 1000 && (parent != id) && nameB s && inB start 0 1000000000 && inB fin 0 1000000000 && decide (start ≤ fin)) := by
  unfold spanB
  generalize nameB s = b
  generalize (parent != id) = c
  rw [Bool.eq_iff_iff]
  cases b <;> cases c
  all_goals first | (simp [inB]; done) | (simp [inB]; omega)
end M1

namespace M1

/-- A span that is zero. -/
def zeroB (id pa : Int) (s : ByteArray) (st en : Int) : Bool := decide (id = 0) && decide (pa = 0) && decide (s.toList = []) && decide (st = 0) && decide (en = 0)
def headB (dr dn sw sc sr tr : Int) : Bool := dotOk dr dn && stOk sw sc sr && decide (sr = dr) && inB tr 1 1000
def kindB (k id pa : Int) (s : ByteArray) (st en lv : Int) : Bool :=
  if k = 1 then spanB id pa s st en && (lv == 0)
  else if k = 2 then zeroB id pa s st en && (lv == 0)
  else if k = 3 then zeroB id pa s st en && inB lv 1 1000000
  else false
def updB (dr dn sw sc sr k tr id pa : Int) (s : ByteArray) (st en lv : Int) : Bool := headB dr dn sw sc sr tr && kindB k id pa s st en lv
end M1

namespace M1

structure Upd where
  dr : Int
  dn : Int
  sw : Int
  sc : Int
  sr : Int
  k : Int
  tr : Int
  id : Int
  pa : Int
  s : ByteArray
  st : Int
  en : Int
  lv : Int

def zeroU : Upd := ⟨0, 0, 0, 0, 0, 0, 0, 0, 0, ByteArray.empty, 0, 0, 0⟩
/-- The i-th update. -/
def up (us : List Upd) (i : Nat) : Upd := us.getD i zeroU
def okU (u : Upd) : Bool := updB u.dr u.dn u.sw u.sc u.sr u.k u.tr u.id u.pa u.s u.st u.en u.lv

/-- May b stand just behind a? -/
def fol (a b : Upd) : Bool :=
  if b.dr = a.dr then decide (b.dn = a.dn + 1) && aheadB a.sw a.sc a.sr b.sw b.sc b.sr else decide (a.dr < b.dr) && decide (b.dn = 1)
def okAt (us : List Upd) (j : Nat) : Bool := okU (up us j) && (if j = 0 then decide ((up us j).dn = 1) else fol (up us (j - 1)) (up us j))
def setOk (us : List Upd) : Bool := decide (us.length ≤ 60) && (List.range us.length).all (okAt us)

theorem setOk_yes {l : List Upd} (h : ∀ j, j < l.length → okAt l j = true) : setOk l = decide (l.length ≤ 60) := by
  have : (List.range l.length).all (okAt l) = true := by simp; exact h
  unfold setOk; rw [this]; simp
theorem setOk_no {l : List Upd} {j : Nat} (hj : j < l.length) (h : okAt l j = false) : setOk l = false := by
  simp [setOk]; intro _; exact ⟨j, hj, h⟩
theorem setOk_all {l : List Upd} (h : setOk l = true) : ∀ j, j < l.length → okAt l j = true := by
  simp [setOk] at h; exact h.2
theorem setOk_len {l : List Upd} (h : setOk l = true) : l.length ≤ 60 := by
  simp [setOk] at h; exact h.1
theorem okAt_ok {l : List Upd} {j : Nat} (h : okAt l j = true) : okU (up l j) = true := by
  simp [okAt] at h; exact h.1

theorem upd_ext {u v : Upd} (h1 : u.dr = v.dr) (h2 : u.dn = v.dn) (h3 : u.sw = v.sw) (h4 : u.sc = v.sc) (h5 : u.sr = v.sr) (h6 : u.k = v.k) (h7 : u.tr = v.tr) (h8 : u.id = v.id) (h9 : u.pa = v.pa) (h10 : u.s = v.s) (h11 : u.st = v.st) (h12 : u.en = v.en) (h13 : u.lv = v.lv) : u = v := by
  cases u; cases v; simp at *; simp [*]

theorem okU_dot {u : Upd} (h : okU u = true) : 1 ≤ u.dr ∧ u.dr ≤ 5 ∧ 1 ≤ u.dn ∧ u.dn ≤ 1000000 := by
  simp [okU, updB, headB] at h
  exact dotOk_true h.1.1.1.1

/-- Is a dot ahead of another one? -/
def dahead (a b x y : Int) : Bool := decide (a < x) || (decide (a = x) && decide (b < y))
def cmpI (x y : Int) : Int := if x < y then -1 else if y < x then 1 else 0
def orI (x y : Int) : Int := if x = 0 then y else x
theorem dahead_cmp (a b x y : Int) : decide (orI (cmpI a x) (cmpI b y) < 0) = dahead a b x y := by
  unfold orI cmpI dahead
  by_cases h1 : a < x
  · simp [h1]
  · by_cases h2 : x < a
    · have h3 : ¬ a = x := by omega
      simp [h1, h2, h3]
    · have h3 : a = x := by omega
      by_cases h4 : b < y
      · simp [h3, h4]
      · by_cases h5 : y < b
        · simp [h3, h4, h5]
        · simp [h3, h4, h5]
end M1

namespace M1
open Go
/-- Bytes as a string. -/
def mkB (l : List UInt8) : ByteArray := ⟨l.toArray⟩
theorem mkB_toList (l : List UInt8) : (mkB l).data.toList = l := rfl
theorem mkB_size (l : List UInt8) : (mkB l).size = l.length := by simp [mkB, ByteArray.size]
theorem mkB_app (a b : List UInt8) : mkB a ++ mkB b = mkB (a ++ b) := by
  apply ByteArray.ext
  show (mkB a ++ mkB b).data = _
  rw [ByteArray.data_append]
  simp [mkB]
theorem mkB_of (s : ByteArray) : mkB s.data.toList = s := by
  apply ByteArray.ext
  simp [mkB]
/-- A number in decimal. -/
def dcm (n : Int) : List UInt8 := Lib.itoa n
theorem dcm_nat (k : Nat) : dcm (k : Int) = Lib.decDigits k := Lib.itoa_nonneg k
theorem dec_small {k : Nat} (h : k < 10) : Lib.decDigits k = [UInt8.ofNat (48 + k)] := Lib.decDigits_one h
theorem dec_big {k : Nat} (h : ¬ k < 10) : Lib.decDigits k = Lib.decDigits (k / 10) ++ [UInt8.ofNat (48 + k % 10)] := by rw [Lib.decDigits, dif_neg h]
theorem dec_len (k : Nat) : ∀ d, k < 10 ^ (d + 1) → (Lib.decDigits k).length ≤ d + 1 := by
  intro d
  induction d generalizing k with
  | zero => intro h; rw [dec_small (by simpa using h)]; simp
  | succ d ih =>
    intro h
    by_cases c : k < 10
    · rw [dec_small c]; simp
    · rw [dec_big c, List.length_append]
      have := ih (k / 10) (by rw [Nat.pow_succ] at h; omega)
      simp
      omega
theorem dcm_len {n : Int} (h0 : 0 ≤ n) (h1 : n ≤ 9223372036854775807) : (dcm n).length ≤ 19 := by
  have e : n = (n.toNat : Int) := by omega
  rw [e, dcm_nat]
  exact dec_len _ 18 (by have : n.toNat ≤ 9223372036854775807 := by omega
                         omega)
/-- Numbers, a blank ahead of each. -/
def rowL (ns : List Int) : List UInt8 := (ns.map fun n => 32 :: dcm n).flatten
theorem rowL_nil : rowL [] = [] := rfl
theorem rowL_snoc (ns : List Int) (n : Int) : rowL (ns ++ [n]) = rowL ns ++ 32 :: dcm n := by simp [rowL]
def nine (n : Int) : Prop := 0 ≤ n ∧ n ≤ 9223372036854775807
theorem rowL_len : ∀ {ns : List Int}, (∀ n ∈ ns, nine n) → (rowL ns).length ≤ 20 * ns.length
  | [], _ => by simp [rowL]
  | n :: t, h => by
    have h1 := rowL_len (ns := t) fun x hx => h x (List.mem_cons_of_mem _ hx)
    have h2 := h n List.mem_cons_self
    have h3 := dcm_len h2.1 h2.2
    have e : rowL (n :: t) = (32 :: dcm n) ++ rowL t := by simp [rowL]
    rw [e, List.length_append, List.length_cons, List.length_cons]
    omega
def wSpan : List UInt8 := [115, 112, 97, 110]
def wKeep : List UInt8 := [107, 101, 101, 112]
def wLife : List UInt8 := [108, 105, 102, 101]
def ns5 (u : Upd) : List Int := [u.dr, u.dn, u.sw, u.sc, u.tr]
/-- A right update's text. -/
def txt (u : Upd) : List UInt8 :=
  if u.k = 1 then wSpan ++ rowL (ns5 u) ++ rowL [u.id, u.pa, u.st, u.en] ++ 32 :: u.s.data.toList
  else if u.k = 2 then wKeep ++ rowL (ns5 u)
  else wLife ++ rowL (ns5 u) ++ rowL [u.lv]
def utx (u : Upd) : ByteArray := if okU u = true then mkB (txt u) else ByteArray.empty
/-- The words of it. -/
def wrd (u : Upd) : List (List UInt8) :=
  if u.k = 1 then wSpan :: ((ns5 u).map dcm ++ [u.id, u.pa, u.st, u.en].map dcm ++ [u.s.data.toList])
  else if u.k = 2 then wKeep :: (ns5 u).map dcm
  else wLife :: ((ns5 u).map dcm ++ [u.lv].map dcm)
theorem tail_row (ns : List Int) : Lib.joinTail [32] (ns.map dcm) = rowL ns := by
  unfold Lib.joinTail rowL
  rw [List.map_map]
  rfl
theorem tail_app (a b : List (List UInt8)) : Lib.joinTail [32] (a ++ b) = Lib.joinTail [32] a ++ Lib.joinTail [32] b := by simp [Lib.joinTail]
theorem join_wrd (u : Upd) : Lib.join (wrd u) [32] = txt u := by
  unfold wrd txt
  split
  · rw [Lib.join_cons, tail_app, tail_app, tail_row, tail_row]
    simp [Lib.joinTail]
  · split
    · rw [Lib.join_cons, tail_row]
    · rw [Lib.join_cons, tail_app, tail_row, tail_row]
      simp
end M1

namespace M1
open Go
def digB (c : UInt8) : Bool := decide (48 ≤ c.toNat) && decide (c.toNat ≤ 57)
def valL (l : List UInt8) : Nat := l.foldl (fun n c => n * 10 + (c.toNat - 48)) 0
theorem valL_snoc (l : List UInt8) (c : UInt8) : valL (l ++ [c]) = valL l * 10 + (c.toNat - 48) := by simp [valL]
/-- A number in decimal: one to ten digits, no nought ahead. -/
def numB (l : List UInt8) : Bool := decide (1 ≤ l.length) && decide (l.length ≤ 10) && l.all digB && (decide (l.length = 1) || !(l.head? == some 48))
def rdN (l : List UInt8) : Option Int := if numB l = true then some (valL l : Int) else none
theorem digB_iff {c : UInt8} : digB c = true ↔ 48 ≤ c.toNat ∧ c.toNat ≤ 57 := by unfold digB; simp
theorem ofNat_dig {c : UInt8} (h : digB c = true) : UInt8.ofNat (48 + (c.toNat - 48)) = c := by
  have h1 := (digB_iff.1 h).1
  rw [show 48 + (c.toNat - 48) = c.toNat by omega]
  simp
theorem val_pos : ∀ (l : List UInt8) (n : Nat), 1 ≤ n → 1 ≤ l.foldl (fun n c => n * 10 + (c.toNat - 48)) n
  | [], n, h => h
  | c :: t, n, h => val_pos t (n * 10 + (c.toNat - 48)) (by omega)
theorem valL_pos {c : UInt8} {l : List UInt8} (hd : digB c = true) (h : ¬ c = 48) : 1 ≤ valL (c :: l) := by
  have h1 := digB_iff.1 hd
  have h2 : ¬ c.toNat = 48 := fun e => h (by
    have : c = UInt8.ofNat 48 := by rw [← e]; simp
    rw [this]; rfl)
  exact val_pos l (0 * 10 + (c.toNat - 48)) (by omega)
/-- What is read, written again, is what was read. -/
theorem dec_val : ∀ (n : Nat) (l : List UInt8), l.length = n + 1 → l.all digB = true → (n = 0 ∨ ¬ l.head? = some 48) → Lib.decDigits (valL l) = l := by
  intro n
  induction n with
  | zero =>
    intro l hl hd _
    match l, hl with
    | [c], _ =>
      have hc : digB c = true := by simpa using hd
      have h1 := digB_iff.1 hc
      have e : valL [c] = c.toNat - 48 := by simp [valL]
      rw [e, dec_small (by omega), ofNat_dig hc]
  | succ n ih =>
    intro l hl hd hh
    have hh' : ¬ l.head? = some 48 := by
      rcases hh with h | h
      · cases h
      · exact h
    obtain ⟨l', c, rfl⟩ : ∃ l' c, l = l' ++ [c] := by
      have hne : l ≠ [] := fun e => by rw [e] at hl; cases hl
      exact ⟨l.dropLast, l.getLast hne, (List.dropLast_concat_getLast hne).symm⟩
    have hl' : l'.length = n + 1 := by simpa using hl
    have hd' : l'.all digB = true ∧ digB c = true := by
      rw [List.all_append] at hd
      simpa using hd
    have hh2 : ¬ l'.head? = some 48 := by
      match l', hl' with
      | x :: t, _ => simpa using hh'
    have ih' := ih l' hl' hd'.1 (Or.inr hh2)
    have hv : 1 ≤ valL l' := by
      match l', hl', hd'.1, hh2 with
      | x :: t, _, h3, h4 =>
        refine valL_pos (by simp at h3; exact h3.1) (fun e => h4 (by simp [e]))
    have h1 := digB_iff.1 hd'.2
    rw [valL_snoc, dec_big (by omega)]
    rw [show (valL l' * 10 + (c.toNat - 48)) / 10 = valL l' by omega, show (valL l' * 10 + (c.toNat - 48)) % 10 = c.toNat - 48 by omega, ih', ofNat_dig hd'.2]
theorem num_dec {l : List UInt8} (h : numB l = true) : dcm (valL l : Int) = l := by
  unfold numB at h
  simp only [Bool.and_eq_true, decide_eq_true_eq, Bool.or_eq_true, Bool.not_eq_true', beq_eq_false_iff_ne, ne_eq] at h
  rw [dcm_nat]
  exact dec_val (l.length - 1) l (by omega) h.1.2 (h.2.imp (fun e => by omega) id)
/-- What was written is read. -/
theorem toNat_dig {x : Nat} (h : x < 10) : (UInt8.ofNat (48 + x)).toNat = 48 + x := by
  show (48 + x) % 256 = 48 + x
  omega
theorem dec_all (k : Nat) : (Lib.decDigits k).all digB = true ∧ valL (Lib.decDigits k) = k ∧ 1 ≤ (Lib.decDigits k).length ∧ ((Lib.decDigits k).length = 1 ∨ ¬ (Lib.decDigits k).head? = some 48) := by
  induction k using Nat.strongRecOn with
  | _ k ih =>
    by_cases c : k < 10
    · rw [dec_small c]
      have := toNat_dig c
      refine ⟨?_, ?_, by simp, Or.inl rfl⟩
      · simp only [List.all_cons, List.all_nil, Bool.and_true]
        exact digB_iff.2 (by omega)
      · show 0 * 10 + ((UInt8.ofNat (48 + k)).toNat - 48) = k
        rw [this]; omega
    · obtain ⟨h1, h2, h3, h4⟩ := ih (k / 10) (by omega)
      have := toNat_dig (x := k % 10) (by omega)
      rw [dec_big c]
      refine ⟨?_, ?_, by simp, Or.inr ?_⟩
      · rw [List.all_append, h1]
        simp only [List.all_cons, List.all_nil, Bool.and_true, Bool.true_and]
        exact digB_iff.2 (by omega)
      · rw [valL_snoc, h2, this]; omega
      · have hne : ¬ (Lib.decDigits (k / 10)).head? = some 48 := by
          rcases h4 with e | e
          · intro hh
            match hq : Lib.decDigits (k / 10), e, hh with
            | [x], _, hh =>
              have hx : x = 48 := by simpa using hh
              rw [hq, hx] at h2
              have : valL [48] = 0 := by decide
              omega
          · exact e
        match hq : Lib.decDigits (k / 10), h3 with
        | x :: t, _ => rw [hq] at hne; simpa using hne
theorem rdN_dcm {n : Int} (h0 : 0 ≤ n) (h1 : n ≤ 9999999999) : rdN (dcm n) = some n := by
  obtain ⟨k, rfl⟩ : ∃ k : Nat, n = k := ⟨n.toNat, by omega⟩
  rw [dcm_nat]
  obtain ⟨a1, a2, a3, a4⟩ := dec_all k
  have hl := dec_len k 9 (by omega)
  unfold rdN
  have : numB (Lib.decDigits k) = true := by
    unfold numB
    simp only [Bool.and_eq_true, decide_eq_true_eq, Bool.or_eq_true, Bool.not_eq_true', beq_eq_false_iff_ne, ne_eq]
    exact ⟨⟨⟨a3, hl⟩, a1⟩, a4⟩
  rw [if_pos this, a2]
theorem rdN_some {l : List UInt8} {n : Int} (h : rdN l = some n) : dcm n = l ∧ 0 ≤ n := by
  unfold rdN at h
  split at h
  · rename_i hn
    injection h with e
    rw [← e]
    exact ⟨num_dec hn, by omega⟩
  · cases h
end M1
