/-
  Plain mathematics of texts: numbers in decimal, rows of words, an update's text.
-/
import Derived.Test.YtjgcjopijblpkaaDoorMath5
import Derived.Lib.ItoaMem
import Derived.Lib.Join
import Derived.Laws.Strings
namespace M1
open Go
/-- Bytes as a string. -/
def mkB (l : List UInt8) : ByteArray := ⟨l.toArray⟩
theorem mkB_toList (l : List UInt8) : (mkB l).data.toList = l := rfl
theorem mkB_size (l : List UInt8) : (mkB l).size = l.length := by simp [mkB, ByteArray.size]
theorem mkB_app (a b : List UInt8) : mkB a ++ mkB b = mkB (a ++ b) := by
  apply ByteArray.ext
  show (mkB a ++ mkB b).data = _
  rw [ByteArray.data_append]
  simp [mkB]
theorem mkB_of (s : ByteArray) : mkB s.data.toList = s := by
  apply ByteArray.ext
  simp [mkB]
/-- A number in decimal. -/
def dcm (n : Int) : List UInt8 := Lib.itoa n
theorem dcm_nat (k : Nat) : dcm (k : Int) = Lib.decDigits k := Lib.itoa_nonneg k
theorem dec_small {k : Nat} (h : k < 10) : Lib.decDigits k = [UInt8.ofNat (48 + k)] := Lib.decDigits_one h
theorem dec_big {k : Nat} (h : ¬ k < 10) : Lib.decDigits k = Lib.decDigits (k / 10) ++ [UInt8.ofNat (48 + k % 10)] := by rw [Lib.decDigits, dif_neg h]
theorem dec_len (k : Nat) : ∀ d, k < 10 ^ (d + 1) → (Lib.decDigits k).length ≤ d + 1 := by
  intro d
  induction d generalizing k with
  | zero => intro h; rw [dec_small (by simpa using h)]; simp
  | succ d ih =>
    intro h
    by_cases c : k < 10
    · rw [dec_small c]; simp
    · rw [dec_big c, List.length_append]
      have := ih (k / 10) (by rw [Nat.pow_succ] at h; omega)
      simp
      omega
theorem dcm_len {n : Int} (h0 : 0 ≤ n) (h1 : n ≤ 9223372036854775807) : (dcm n).length ≤ 19 := by
  have e : n = (n.toNat : Int) := by omega
  rw [e, dcm_nat]
  exact dec_len _ 18 (by have : n.toNat ≤ 9223372036854775807 := by omega
                         omega)
/-- Numbers, a blank ahead of each. -/
def rowL (ns : List Int) : List UInt8 := (ns.map fun n => 32 :: dcm n).flatten
theorem rowL_nil : rowL [] = [] := rfl
theorem rowL_snoc (ns : List Int) (n : Int) : rowL (ns ++ [n]) = rowL ns ++ 32 :: dcm n := by simp [rowL]
def nine (n : Int) : Prop := 0 ≤ n ∧ n ≤ 9223372036854775807
theorem rowL_len : ∀ {ns : List Int}, (∀ n ∈ ns, nine n) → (rowL ns).length ≤ 20 * ns.length
  | [], _ => by simp [rowL]
  | n :: t, h => by
    have h1 := rowL_len (ns := t) fun x hx => h x (List.mem_cons_of_mem _ hx)
    have h2 := h n List.mem_cons_self
    have h3 := dcm_len h2.1 h2.2
    have e : rowL (n :: t) = (32 :: dcm n) ++ rowL t := by simp [rowL]
    rw [e, List.length_append, List.length_cons, List.length_cons]
    omega
def wSpan : List UInt8 := [115, 112, 97, 110]
def wKeep : List UInt8 := [107, 101, 101, 112]
def wLife : List UInt8 := [108, 105, 102, 101]
def ns5 (u : Upd) : List Int := [u.dr, u.dn, u.sw, u.sc, u.tr]
/-- A right update's text. -/
def txt (u : Upd) : List UInt8 :=
  if u.k = 1 then wSpan ++ rowL (ns5 u) ++ rowL [u.id, u.pa, u.st, u.en] ++ 32 :: u.s.data.toList
  else if u.k = 2 then wKeep ++ rowL (ns5 u)
  else wLife ++ rowL (ns5 u) ++ rowL [u.lv]
def utx (u : Upd) : ByteArray := if okU u = true then mkB (txt u) else ByteArray.empty
/-- The words of it. -/
def wrd (u : Upd) : List (List UInt8) :=
  if u.k = 1 then wSpan :: ((ns5 u).map dcm ++ [u.id, u.pa, u.st, u.en].map dcm ++ [u.s.data.toList])
  else if u.k = 2 then wKeep :: (ns5 u).map dcm
  else wLife :: ((ns5 u).map dcm ++ [u.lv].map dcm)
theorem tail_row (ns : List Int) : Lib.joinTail [32] (ns.map dcm) = rowL ns := by
  unfold Lib.joinTail rowL
  rw [List.map_map]
  rfl
theorem tail_app (a b : List (List UInt8)) : Lib.joinTail [32] (a ++ b) = Lib.joinTail [32] a ++ Lib.joinTail [32] b := by simp [Lib.joinTail]
theorem join_wrd (u : Upd) : Lib.join (wrd u) [32] = txt u := by
  unfold wrd txt
  split
  · rw [Lib.join_cons, tail_app, tail_app, tail_row, tail_row]
    simp [Lib.joinTail]
  · split
    · rw [Lib.join_cons, tail_row]
    · rw [Lib.join_cons, tail_app, tail_row, tail_row]
      simp
end M1
