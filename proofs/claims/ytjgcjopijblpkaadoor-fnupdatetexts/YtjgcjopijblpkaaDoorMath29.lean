/-
  Plain mathematics of reading: a number's text, an update's words; what is read is what was written.
-/
import Derived.Test.YtjgcjopijblpkaaDoorMath28
namespace M1
open Go
def digB (c : UInt8) : Bool := decide (48 ≤ c.toNat) && decide (c.toNat ≤ 57)
def valL (l : List UInt8) : Nat := l.foldl (fun n c => n * 10 + (c.toNat - 48)) 0
theorem valL_snoc (l : List UInt8) (c : UInt8) : valL (l ++ [c]) = valL l * 10 + (c.toNat - 48) := by simp [valL]
/-- A number in decimal: one to ten digits, no nought ahead. -/
def numB (l : List UInt8) : Bool := decide (1 ≤ l.length) && decide (l.length ≤ 10) && l.all digB && (decide (l.length = 1) || !(l.head? == some 48))
def rdN (l : List UInt8) : Option Int := if numB l = true then some (valL l : Int) else none
theorem digB_iff {c : UInt8} : digB c = true ↔ 48 ≤ c.toNat ∧ c.toNat ≤ 57 := by unfold digB; simp
theorem ofNat_dig {c : UInt8} (h : digB c = true) : UInt8.ofNat (48 + (c.toNat - 48)) = c := by
  have h1 := (digB_iff.1 h).1
  rw [show 48 + (c.toNat - 48) = c.toNat by omega]
  simp
theorem val_pos : ∀ (l : List UInt8) (n : Nat), 1 ≤ n → 1 ≤ l.foldl (fun n c => n * 10 + (c.toNat - 48)) n
  | [], n, h => h
  | c :: t, n, h => val_pos t (n * 10 + (c.toNat - 48)) (by omega)
theorem valL_pos {c : UInt8} {l : List UInt8} (hd : digB c = true) (h : ¬ c = 48) : 1 ≤ valL (c :: l) := by
  have h1 := digB_iff.1 hd
  have h2 : ¬ c.toNat = 48 := fun e => h (by
    have : c = UInt8.ofNat 48 := by rw [← e]; simp
    rw [this]; rfl)
  exact val_pos l (0 * 10 + (c.toNat - 48)) (by omega)
/-- What is read, written again, is what was read. -/
theorem dec_val : ∀ (n : Nat) (l : List UInt8), l.length = n + 1 → l.all digB = true → (n = 0 ∨ ¬ l.head? = some 48) → Lib.decDigits (valL l) = l := by
  intro n
  induction n with
  | zero =>
    intro l hl hd _
    match l, hl with
    | [c], _ =>
      have hc : digB c = true := by simpa using hd
      have h1 := digB_iff.1 hc
      have e : valL [c] = c.toNat - 48 := by simp [valL]
      rw [e, dec_small (by omega), ofNat_dig hc]
  | succ n ih =>
    intro l hl hd hh
    have hh' : ¬ l.head? = some 48 := by
      rcases hh with h | h
      · cases h
      · exact h
    obtain ⟨l', c, rfl⟩ : ∃ l' c, l = l' ++ [c] := by
      have hne : l ≠ [] := fun e => by rw [e] at hl; cases hl
      exact ⟨l.dropLast, l.getLast hne, (List.dropLast_concat_getLast hne).symm⟩
    have hl' : l'.length = n + 1 := by simpa using hl
    have hd' : l'.all digB = true ∧ digB c = true := by
      rw [List.all_append] at hd
      simpa using hd
    have hh2 : ¬ l'.head? = some 48 := by
      match l', hl' with
      | x :: t, _ => simpa using hh'
    have ih' := ih l' hl' hd'.1 (Or.inr hh2)
    have hv : 1 ≤ valL l' := by
      match l', hl', hd'.1, hh2 with
      | x :: t, _, h3, h4 =>
        refine valL_pos (by simp at h3; exact h3.1) (fun e => h4 (by simp [e]))
    have h1 := digB_iff.1 hd'.2
    rw [valL_snoc, dec_big (by omega)]
    rw [show (valL l' * 10 + (c.toNat - 48)) / 10 = valL l' by omega, show (valL l' * 10 + (c.toNat - 48)) % 10 = c.toNat - 48 by omega, ih', ofNat_dig hd'.2]
theorem num_dec {l : List UInt8} (h : numB l = true) : dcm (valL l : Int) = l := by
  unfold numB at h
  simp only [Bool.and_eq_true, decide_eq_true_eq, Bool.or_eq_true, Bool.not_eq_true', beq_eq_false_iff_ne, ne_eq] at h
  rw [dcm_nat]
  exact dec_val (l.length - 1) l (by omega) h.1.2 (h.2.imp (fun e => by omega) id)
/-- What was written is read. -/
theorem toNat_dig {x : Nat} (h : x < 10) : (UInt8.ofNat (48 + x)).toNat = 48 + x := by
  show (48 + x) % 256 = 48 + x
  omega
theorem dec_all (k : Nat) : (Lib.decDigits k).all digB = true ∧ valL (Lib.decDigits k) = k ∧ 1 ≤ (Lib.decDigits k).length ∧ ((Lib.decDigits k).length = 1 ∨ ¬ (Lib.decDigits k).head? = some 48) := by
  induction k using Nat.strongRecOn with
  | _ k ih =>
    by_cases c : k < 10
    · rw [dec_small c]
      have := toNat_dig c
      refine ⟨?_, ?_, by simp, Or.inl rfl⟩
      · simp only [List.all_cons, List.all_nil, Bool.and_true]
        exact digB_iff.2 (by omega)
      · show 0 * 10 + ((UInt8.ofNat (48 + k)).toNat - 48) = k
        rw [this]; omega
    · obtain ⟨h1, h2, h3, h4⟩ := ih (k / 10) (by omega)
      have := toNat_dig (x := k % 10) (by omega)
      rw [dec_big c]
      refine ⟨?_, ?_, by simp, Or.inr ?_⟩
      · rw [List.all_append, h1]
        simp only [List.all_cons, List.all_nil, Bool.and_true, Bool.true_and]
        exact digB_iff.2 (by omega)
      · rw [valL_snoc, h2, this]; omega
      · have hne : ¬ (Lib.decDigits (k / 10)).head? = some 48 := by
          rcases h4 with e | e
          · intro hh
            match hq : Lib.decDigits (k / 10), e, hh with
            | [x], _, hh =>
              have hx : x = 48 := by simpa using hh
              rw [hq, hx] at h2
              have : valL [48] = 0 := by decide
              omega
          · exact e
        match hq : Lib.decDigits (k / 10), h3 with
        | x :: t, _ => rw [hq] at hne; simpa using hne
theorem rdN_dcm {n : Int} (h0 : 0 ≤ n) (h1 : n ≤ 9999999999) : rdN (dcm n) = some n := by
  obtain ⟨k, rfl⟩ : ∃ k : Nat, n = k := ⟨n.toNat, by omega⟩
  rw [dcm_nat]
  obtain ⟨a1, a2, a3, a4⟩ := dec_all k
  have hl := dec_len k 9 (by omega)
  unfold rdN
  have : numB (Lib.decDigits k) = true := by
    unfold numB
    simp only [Bool.and_eq_true, decide_eq_true_eq, Bool.or_eq_true, Bool.not_eq_true', beq_eq_false_iff_ne, ne_eq]
    exact ⟨⟨⟨a3, hl⟩, a1⟩, a4⟩
  rw [if_pos this, a2]
theorem rdN_some {l : List UInt8} {n : Int} (h : rdN l = some n) : dcm n = l ∧ 0 ≤ n := by
  unfold rdN at h
  split at h
  · rename_i hn
    injection h with e
    rw [← e]
    exact ⟨num_dec hn, by omega⟩
  · cases h
end M1
