/-
  Texts of one proof, joined: Math14, Math15, Math10, Math35.
-/
import Derived.Test.YtgcinolbkllkkaaGreatZXWorldOk00
import Derived.Test.YtgcinolbkllkkaaGreatZXWorldOk19
import Derived.Test.YtgcinolbkllkkaaGreatZXWorldOk20
namespace M1
structure LInv (L : Int → Int) (us : List Upd) : Prop where
 el : ∀ x ∈ us, 1 ≤ x.dr ∧ x.dr ≤ 5 ∧ 1 ≤ x.dn ∧ x.dn ≤ L x.dr
 bd : ∀ r, 0 ≤ L r ∧ L r ≤ 1000000
 has : ∀ r, 1 ≤ r → r ≤ 5 → 0 < L r → ∃ x ∈ us, x.dr = r ∧ x.dn = L r

theorem LInv.put {L : Int → Int} {us : List Upd} (h : LInv L us) {u : Upd} (hu : 1 ≤ u.dr ∧ u.dr ≤ 5 ∧ 1 ≤ u.dn ∧ u.dn ≤ 1000000) (hn : u.dn = L u.dr + 1) : (∀ x ∈ us, ¬ (x.dr = u.dr ∧ x.dn = u.dn)) ∧ LInv (fun r => if r = u.dr then u.dn else L r) (insD us u) := by
 have hnew : ∀ x ∈ us, ¬ (x.dr = u.dr ∧ x.dn = u.dn) := fun x hx e => by
  have := (h.el x hx).2.2.2
  rw [e.1] at this; omega
 refine ⟨hnew, ⟨fun x hx => ?_, fun r => ?_, fun r h1 h5 hr => ?_⟩⟩
 ·rcases insD_mem hx with hx | hx
  ·have q := h.el x hx
   refine ⟨q.1, q.2.1, q.2.2.1, ?_⟩
   by_cases e : x.dr = u.dr
   ·simp only [if_pos e]; have := q.2.2.2; rw [e] at this; omega
   ·simp only [if_neg e]; exact q.2.2.2
  ·subst hx; simp; omega
 ·by_cases e : r = u.dr
  ·simp only [if_pos e]; omega
  ·simp only [if_neg e]; exact h.bd r
 ·have hp := insD_new hnew
  by_cases e : r = u.dr
  ·exact ⟨u, hp.mem_iff.2 (by simp), e.symm, by simp [e]⟩
  ·simp only [if_neg e] at hr ⊢
   obtain ⟨x, hx, q⟩ := h.has r h1 h5 hr
   exact ⟨x, hp.mem_iff.2 (by simp [hx]), q⟩

theorem LInv.start {xs : List Upd} (h : ∀ j, j < xs.length → okAt xs j = true) : LInv (lastN xs xs.length) xs := by
 refine ⟨fun x hx => ?_, fun r => lastN_bd h r _ (Nat.le_refl _), fun r h1 h5 hr => ?_⟩
 ·obtain ⟨i, hi, e⟩ := mem_up hx
  have q := ok_rg h hi
  have g := lastN_ge h xs.length hi (Nat.le_refl _)
  rw [e] at q g
  exact ⟨q.1, q.2.1, q.2.2.1, g⟩
 ·have key : ∀ k, k ≤ xs.length → 0 < lastN xs k r → ∃ x ∈ xs, x.dr = r ∧ x.dn = lastN xs k r := by
   intro k
   induction k with
   | zero => intro _ h; simp [lastN] at h
   | succ k ih =>
    intro hk hpos
    rw [lastN_succ] at hpos ⊢
    by_cases e : (up xs k).dr = r
    ·rw [if_pos e]
     refine ⟨up xs k, ?_, e, rfl⟩
     have : up xs k = xs[k] := by simp [up, List.getD, show k < xs.length by omega]
     rw [this]; exact List.getElem_mem (by omega)
    ·rw [if_neg e] at hpos ⊢; exact ih (by omega) hpos
  exact key _ (Nat.le_refl _) hr

end M1

namespace M1
def Agr (xs ys : List Upd) : Prop := ∀ x, x ∈ xs → ∀ y, y ∈ ys → x.dr = y.dr → x.dn = y.dn → x = y

theorem Agr.symm {xs ys : List Upd} (h : Agr xs ys) : Agr ys xs := fun y hy x hx e1 e2 => (h x hx y hy e1.symm e2.symm).symm

theorem jOk_true {xs ys : List Upd} (h : jOk xs ys = true) : agreeB xs ys = true ∧ setOk (jl xs ys) = true := by
 unfold jOk at h
 simpa using h

end M1

namespace M1
def laterB (sw sc a b : Int) : Bool := decide (a < sw) || (decide (sw = a) && decide (b < sc))

def noneLater (us : List Upd) (a b : Int) : Bool := (List.range us.length).all fun j => !laterB (up us j).sw (up us j).sc a b

def regOk (id a b c : Int) (us : List Upd) : Bool := inB id 1 5 && stOk a b c && decide (c = id) && setOk us && noneLater us a b

theorem noneLater_yes {us : List Upd} {a b : Int} (h : ∀ j, j < us.length → laterB (up us j).sw (up us j).sc a b = false) : noneLater us a b = true := by
 simp [noneLater]; exact h

theorem noneLater_no {us : List Upd} {a b : Int} {j : Nat} (hj : j < us.length) (h : laterB (up us j).sw (up us j).sc a b = true) : noneLater us a b = false := by
 simp [noneLater]; exact ⟨j, hj, h⟩

theorem regOk_1 {id a b c : Int} {us : List Upd} (h : inB id 1 5 = false) : regOk id a b c us = false := by simp [regOk, h]

theorem regOk_2 {id a b c : Int} {us : List Upd} (h : stOk a b c = false) : regOk id a b c us = false := by simp [regOk, h]

theorem regOk_3 {id a b c : Int} {us : List Upd} (h : ¬ c = id) : regOk id a b c us = false := by simp [regOk, h]

theorem regOk_4 {id a b c : Int} {us : List Upd} (h : setOk us = false) : regOk id a b c us = false := by simp [regOk, h]

theorem regOk_5 {id a b c : Int} {us : List Upd} (h1 : inB id 1 5 = true) (h2 : stOk a b c = true) (h3 : c = id) (h4 : setOk us = true) : regOk id a b c us = noneLater us a b := by unfold regOk; rw [h1, h2, h4, decide_eq_true h3]; rfl

end M1

namespace M1
structure Rg where
 id : Int
 a : Int
 b : Int
 c : Int
 us : List Upd

def zeroR : Rg := ⟨0, 0, 0, 0, []⟩

def rOk (r : Rg) : Bool := regOk r.id r.a r.b r.c r.us

end M1
