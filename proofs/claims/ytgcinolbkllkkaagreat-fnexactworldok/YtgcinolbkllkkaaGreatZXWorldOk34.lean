/-
  Texts of one proof, joined: Math39, Uq.
-/
import Derived.Test.YtgcinolbkllkkaaGreatZXWorldOk28
import Derived.Test.YtgcinolbkllkkaaGreatZXWorldOk10
import Derived.Test.YtgcinolbkllkkaaGreatZXWorldOk33
import Derived.Test.YtgcinolbkllkkaaGreatZXWorldOk08
import Derived.Test.YtgcinolbkllkkaaGreatZXWorldOk00
import Derived.Test.YtgcinolbkllkkaaGreatZXWorldOk01
namespace M1
def inU (us : List Upd) (u : Upd) : Bool := (List.range us.length).any fun j => ueq (up us j) u

theorem inU_yes {us : List Upd} {u : Upd} {j : Nat} (hj : j < us.length) (h : ueq (up us j) u = true) : inU us u = true := by
 simp [inU]; exact ⟨j, hj, h⟩

theorem inU_no {us : List Upd} {u : Upd} (h : ∀ j, j < us.length → ueq (up us j) u = false) : inU us u = false := by
 simp [inU]; exact h

def allIn (l us : List Upd) : Bool := (List.range l.length).all fun i => inU us (up l i)

theorem allIn_yes {l us : List Upd} (h : ∀ i, i < l.length → inU us (up l i) = true) : allIn l us = true := by
 simp [allIn]; exact h

theorem allIn_no {l us : List Upd} {i : Nat} (hi : i < l.length) (h : inU us (up l i) = false) : allIn l us = false := by
 simp [allIn]; exact ⟨i, hi, h⟩

def regsB (rs : List Rg) : Nat → Bool
 | 0 => true
 | k + 1 => regsB rs k && (decide ((rgA rs k).id = (k : Int) + 1) && rOk (rgA rs k))

theorem regsB_no {rs : List Rg} {k : Nat} (h : regsB rs k = false) : ∀ j, regsB rs (k + j) = false
 | 0 => h
 | j + 1 => by show (regsB rs (k + j) && _) = false; rw [regsB_no h j]; rfl

theorem regsB_fail {rs : List Rg} {k n : Nat} (h : regsB rs k = false) (hk : k ≤ n) : regsB rs n = false := by
 have := regsB_no h (n - k); rwa [show k + (n - k) = n by omega] at this

def uni (rs : List Rg) : Nat → Option (List Upd)
 | 0 => some []
 | k + 1 => match uni rs k with
  | none => none
  | some l => if jOk l (rgA rs k).us = true then some (jL l (rgA rs k).us) else none

theorem uni_yes {rs : List Rg} {k : Nat} {l : List Upd} (h : uni rs k = some l) (hj : jOk l (rgA rs k).us = true) : uni rs (k + 1) = some (jL l (rgA rs k).us) := by
 unfold uni; rw [h]; simp [hj]

theorem uni_no {rs : List Rg} {k : Nat} {l : List Upd} (h : uni rs k = some l) (hj : jOk l (rgA rs k).us = false) : uni rs (k + 1) = none := by
 unfold uni; rw [h]; simp [hj]

theorem uni_none {rs : List Rg} {k : Nat} (h : uni rs k = none) : ∀ j, uni rs (k + j) = none
 | 0 => h
 | j + 1 => by show (match uni rs (k + j) with | none => none | some l => if jOk l (rgA rs (k + j)).us = true then some (jL l (rgA rs (k + j)).us) else none) = none; rw [uni_none h j]

theorem uni_fail {rs : List Rg} {k n : Nat} (h : uni rs k = none) (hk : k ≤ n) : uni rs n = none := by
 have := uni_none h (n - k); rwa [show k + (n - k) = n by omega] at this

theorem uni_set {rs : List Rg} : ∀ {k : Nat} {l : List Upd}, uni rs k = some l → setOk l = true
 | 0, l, h => by unfold uni at h; injection h with h; rw [← h]; rfl
 | k + 1, l, h => by
  cases q : uni rs k with
  | none => rw [uni_fail q (Nat.le_succ k)] at h; cases h
  | some m =>
   cases c : jOk m (rgA rs k).us with
   | false => rw [uni_no q c] at h; cases h
   | true =>
    rw [uni_yes q c] at h
    injection h with h
    rw [← h]
    unfold jL
    rw [if_pos c]
    exact (jOk_true c).2

def ownB (rs : List Rg) (n : Nat) (u : Upd) : Bool := decide (u.dr ≤ (n : Int)) && inU (rgA rs (u.dr - 1).toNat).us u

def ownsB (rs : List Rg) (n : Nat) (l : List Upd) : Bool := (List.range l.length).all fun i => ownB rs n (up l i)

theorem ownsB_yes {rs : List Rg} {n : Nat} {l : List Upd} (h : ∀ i, i < l.length → ownB rs n (up l i) = true) : ownsB rs n l = true := by
 simp [ownsB]; exact h

theorem ownsB_no {rs : List Rg} {n : Nat} {l : List Upd} {i : Nat} (hi : i < l.length) (h : ownB rs n (up l i) = false) : ownsB rs n l = false := by
 simp [ownsB]; exact ⟨i, hi, h⟩

def wAll (rs : List Rg) (n : Nat) : Option (List Upd) := if regsB rs n = true then (match uni rs n with | none => none | some l => if ownsB rs n l = true then some l else none) else none

def mailB (n : Nat) (all : List Upd) (m : Ml) : Bool := inB m.fr 1 n && (inB m.tt 1 n && (!(m.fr == m.tt) && (if m.ask = true then vecOk m.vec && decide (m.del.length = 0) else decide (m.vec.length = 0) && (decide (1 ≤ m.del.length ∧ m.del.length ≤ 3) && allIn m.del all))))

def mailsB (n : Nat) (all : List Upd) (ms : List Ml) : Bool := (List.range ms.length).all fun i => mailB n all (mlA ms i)

theorem mailsB_yes {n : Nat} {all : List Upd} {ms : List Ml} (h : ∀ i, i < ms.length → mailB n all (mlA ms i) = true) : mailsB n all ms = true := by
 simp [mailsB]; exact h

theorem mailsB_no {n : Nat} {all : List Upd} {ms : List Ml} {i : Nat} (hi : i < ms.length) (h : mailB n all (mlA ms i) = false) : mailsB n all ms = false := by
 simp [mailsB]; exact ⟨i, hi, h⟩

def wHead (now : Int) (n m : Nat) : Bool := inB now 0 1000000000 && (inB n 2 5 && decide (m ≤ 40))

def wOk (now : Int) (rs : List Rg) (ms : List Ml) : Bool := wHead now rs.length ms.length && (match wAll rs rs.length with | none => false | some l => mailsB rs.length l ms)

theorem wOk_1 {now : Int} {rs : List Rg} {ms : List Ml} (h : wHead now rs.length ms.length = false) : wOk now rs ms = false := by unfold wOk; rw [h]; rfl

theorem wOk_2 {now : Int} {rs : List Rg} {ms : List Ml} (h : wHead now rs.length ms.length = true) (h2 : wAll rs rs.length = none) : wOk now rs ms = false := by unfold wOk; rw [h, h2]; rfl

theorem wOk_3 {now : Int} {rs : List Rg} {ms : List Ml} {l : List Upd} (h : wHead now rs.length ms.length = true) (h2 : wAll rs rs.length = some l) : wOk now rs ms = mailsB rs.length l ms := by unfold wOk; rw [h, h2]; rfl

theorem wAll_1 {rs : List Rg} {n : Nat} (h : regsB rs n = false) : wAll rs n = none := by unfold wAll; rw [h]; rfl

theorem wAll_2 {rs : List Rg} {n : Nat} (h : uni rs n = none) : wAll rs n = none := by unfold wAll; rw [h]; split <;> rfl

theorem wAll_3 {rs : List Rg} {n : Nat} {l : List Upd} (h : uni rs n = some l) (h2 : ownsB rs n l = false) : wAll rs n = none := by unfold wAll; rw [h]; split <;> simp [h2]

theorem wAll_0 {rs : List Rg} {n : Nat} {l : List Upd} (h0 : regsB rs n = true) (h : uni rs n = some l) (h2 : ownsB rs n l = true) : wAll rs n = some l := by unfold wAll; rw [h0, h]; simp [h2]

end M1

namespace Go.Proofs.YtgcinolbkllkkaaGreat
open Go.ChangeShapes Go.WideShapes Go.ChangeAt Go.RowKit
set_option linter.unusedSimpArgs false
set_option linter.unusedVariables false
def uq (u : M1.Upd) (o : Nat) : Value := [.int .i64 u.dr, .int .i64 u.dn, .int .i64 u.sw, .int .i64 u.sc, .int .i64 u.sr, .int .i64 u.k, .int .i64 u.tr, .int .i64 u.id, .int .i64 u.pa, .string u.s, .int .i64 u.st, .int .i64 u.en, .int .i64 u.lv].getD o undef

theorem uq_same {f f' : Nat → Value} (h0 : f 0 = f' 0) (h1 : f 1 = f' 1) (h2 : f 2 = f' 2) (h3 : f 3 = f' 3) (h4 : f 4 = f' 4) (h5 : f 5 = f' 5) (h6 : f 6 = f' 6) (h7 : f 7 = f' 7) (h8 : f 8 = f' 8) (h9 : f 9 = f' 9) (h10 : f 10 = f' 10) (h11 : f 11 = f' 11) (h12 : f 12 = f' 12) : ∀ o, o < 13 → f o = f' o := fun o ho => by
 match o, ho with
 | 0, _ => exact h0
 | 1, _ => exact h1
 | 2, _ => exact h2
 | 3, _ => exact h3
 | 4, _ => exact h4
 | 5, _ => exact h5
 | 6, _ => exact h6
 | 7, _ => exact h7
 | 8, _ => exact h8
 | 9, _ => exact h9
 | 10, _ => exact h10
 | 11, _ => exact h11
 | 12, _ => exact h12

theorem uq_new (w : World) (u : M1.Upd) (t : TypeId) : RowAt (w.alloc (.cells #[.int .i64 u.dr, .int .i64 u.dn, .int .i64 u.sw, .int .i64 u.sc, .int .i64 u.sr, .int .i64 u.k, .int .i64 u.tr, .int .i64 u.id, .int .i64 u.pa, .string u.s, .int .i64 u.st, .int .i64 u.en, .int .i64 u.lv] t)) w.heap.size 13 (uq u) :=
 (RowAt.new w #[.int .i64 u.dr, .int .i64 u.dn, .int .i64 u.sw, .int .i64 u.sc, .int .i64 u.sr, .int .i64 u.k, .int .i64 u.tr, .int .i64 u.id, .int .i64 u.pa, .string u.s, .int .i64 u.st, .int .i64 u.en, .int .i64 u.lv] t).same (uq_same rfl rfl rfl rfl rfl rfl rfl rfl rfl rfl rfl rfl rfl)

theorem uq_cells {w : World} {p : Nat} {u : M1.Upd} (h : RowAt w p 13 (uq u)) : w.cell? ⟨p, 0, none⟩ = some (.int .i64 u.dr) ∧ w.cell? ⟨p, 1, none⟩ = some (.int .i64 u.dn) ∧ w.cell? ⟨p, 2, none⟩ = some (.int .i64 u.sw) ∧ w.cell? ⟨p, 3, none⟩ = some (.int .i64 u.sc) ∧ w.cell? ⟨p, 4, none⟩ = some (.int .i64 u.sr) ∧ w.cell? ⟨p, 5, none⟩ = some (.int .i64 u.k) ∧ w.cell? ⟨p, 6, none⟩ = some (.int .i64 u.tr) ∧ w.cell? ⟨p, 7, none⟩ = some (.int .i64 u.id) ∧ w.cell? ⟨p, 8, none⟩ = some (.int .i64 u.pa) ∧ w.cell? ⟨p, 9, none⟩ = some (.string u.s) ∧ w.cell? ⟨p, 10, none⟩ = some (.int .i64 u.st) ∧ w.cell? ⟨p, 11, none⟩ = some (.int .i64 u.en) ∧ w.cell? ⟨p, 12, none⟩ = some (.int .i64 u.lv) :=
 ⟨h.cell (o := 0) (by omega), h.cell (o := 1) (by omega), h.cell (o := 2) (by omega), h.cell (o := 3) (by omega), h.cell (o := 4) (by omega), h.cell (o := 5) (by omega), h.cell (o := 6) (by omega), h.cell (o := 7) (by omega), h.cell (o := 8) (by omega), h.cell (o := 9) (by omega), h.cell (o := 10) (by omega), h.cell (o := 11) (by omega), h.cell (o := 12) (by omega)⟩

end Go.Proofs.YtgcinolbkllkkaaGreat
