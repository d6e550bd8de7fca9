/-
  Texts of one proof, joined: OwnU, MapU.
-/
import Derived.Test.YtccendmoeelniaaGreatDoorZFIssued02
import Derived.Test.YtccendmoeelniaaGreatDoorZFIssued03
import Derived.Laws.BytesArg
import Derived.Deep.AppendLies
import Derived.Test.YtccendmoeelniaaGreatDoorZFIssued01
import Derived.Carry
import Derived.Maps.OwnOps
namespace Go.Proofs.YtccendmoeelniaaGreatDoor
open Go.ChangeShapes Go.WideShapes Go.ChangeAt Go.RowKit
set_option linter.unusedSimpArgs false
set_option linter.unusedVariables false
def ucL (us : List M1.Upd) : List Value := us.flatMap ucs

theorem ucL_snoc (us : List M1.Upd) (u : M1.Upd) : ucL (us ++ [u]) = ucL us ++ ucs u := by simp [ucL]

theorem ucs_len (u : M1.Upd) : (ucs u).length = 13 := rfl

theorem ucL_len : ∀ us : List M1.Upd, (ucL us).length = us.length * 13
 | [] => rfl
 | d :: r => by
  have := ucL_len r
  simp only [ucL, List.flatMap_cons, List.length_append, ucs_len, List.length_cons] at this ⊢
  omega

theorem ucL_get : ∀ (us : List M1.Upd) (o : Nat), o < us.length * 13 → (ucL us).getD o undef = ucell us o
 | [], o, h => by simp at h
 | d :: r, o, h => by
  have e0 : ucL (d :: r) = ucs d ++ ucL r := rfl
  by_cases hlt : o < 13
  ·have e1 : (ucL (d :: r)).getD o undef = (ucs d).getD o undef := by
    rw [e0]; simp [List.getD, List.getElem?_append_left (show o < (ucs d).length by rw [ucs_len]; exact hlt)]
   rw [e1]
   unfold ucell
   rw [show o / 13 = 0 from by omega, show o % 13 = o from by omega]
   rfl
  ·obtain ⟨q, rfl⟩ : ∃ q, o = 13 + q := ⟨o - 13, by omega⟩
   have ih := ucL_get r q (by simp at h; omega)
   have e1 : (ucL (d :: r)).getD (13 + q) undef = (ucL r).getD q undef := by
    rw [e0]; simp [List.getD, List.getElem?_append_right (show (ucs d).length ≤ 13 + q by rw [ucs_len]; omega), ucs_len]
   have e2 : ucell (d :: r) (13 + q) = ucell r q := by
    unfold ucell
    rw [show (13 + q) / 13 = q / 13 + 1 from by omega, show (13 + q) % 13 = q % 13 from by omega]
    rfl
   rw [e1, e2, ih]

def MU (w : World) (av : Option Addr) (n cap lo hi : Nat) (f : Nat → Value) : Prop :=
 n ≤ cap ∧ cap ≤ maxLen ∧ ((n = 0 ∧ av = none) ∨ ∃ g, av = some ⟨g, 0, none⟩ ∧ lo ≤ g ∧ g < hi ∧ RowAt w g (n * 13) f)

def MkU (av : Option Addr) (w w' : World) : Prop := (av = none → Below w.heap.size w w') ∧ ∀ g, av = some ⟨g, 0, none⟩ → Gr g w w'

theorem MU.below {w w' : World} {av : Option Addr} {n cap lo hi : Nat} {f : Nat → Value} (h : MU w av n cap lo hi f) (hb : Below w.heap.size w w') : MU w' av n cap lo hi f :=
 ⟨h.1, h.2.1, h.2.2.imp id fun ⟨g, e, h1, h2, r⟩ => ⟨g, e, h1, h2, r.below hb⟩⟩

theorem MU.off {w w' : World} {av : Option Addr} {n cap lo hi g : Nat} {f : Nat → Value} (h : MU w av n cap lo hi f) (hg : Gr g w w') (hb : g < lo ∨ hi ≤ g) : MU w' av n cap lo hi f :=
 ⟨h.1, h.2.1, h.2.2.imp id fun ⟨k, e, h1, h2, r⟩ => ⟨k, e, h1, h2, r.gr hg (by omega)⟩⟩

theorem MU.mk {w w' : World} {av bv : Option Addr} {n cap lo hi m cm lo2 hi2 : Nat} {f f2 : Nat → Value} (h : MU w av n cap lo hi f) (h2 : MU w bv m cm lo2 hi2 f2) (hm : MkU bv w w') (hd : hi ≤ lo2 ∨ hi2 ≤ lo) : MU w' av n cap lo hi f := by
 rcases h2.2.2 with ⟨_, h0⟩ | ⟨g2, e2, h5, h6, _⟩
 ·exact h.below (hm.1 h0)
 ·exact h.off (hm.2 g2 e2) (by omega)

theorem MkU.below {w w' : World} {bv : Option Addr} {m cm lo2 hi2 B : Nat} {f2 : Nat → Value} (h2 : MU w bv m cm lo2 hi2 f2) (hm : MkU bv w w') (hB : B ≤ w.heap.size) (hlo : B ≤ lo2) : Below B w w' := by
 rcases h2.2.2 with ⟨_, h0⟩ | ⟨g2, e2, h5, h6, _⟩
 ·exact (hm.1 h0).mono hB
 ·exact gr_to (hm.2 g2 e2) hB (by omega)

theorem MU.upds {w : World} {av : Option Addr} {n cap lo hi : Nat} {us : List M1.Upd} (h : MU w av n cap lo hi (ucell us)) (hl : us.length = n) (ht : ∀ i, i < n → (M1.up us i).s.size ≤ maxLen) : IsUpds w av n cap us := by
 rcases h.2.2 with ⟨h0, _⟩ | ⟨g, rfl, _, _, r⟩
 ·exact ⟨hl, h.1, h.2.1, ht, Or.inl h0⟩
 ·exact isUpds_of_row hl h.1 h.2.1 ht r

theorem MU.of_owns {w : World} {base : Nat} {e : TypeId} {v : Value} {us : List M1.Upd} (h : w.ownsRow base e 13 v us.length (ucL us)) : ∃ av cap, v = .slice av us.length cap ∧ MU w av us.length cap base w.heap.size (ucell us) := by
 have h0 := h
 obtain ⟨h1, h2⟩ := h
 rcases h2 with ⟨rfl, h3⟩ | ⟨g, cap, cur, rfl, hg, hh, hn, hm, hs, ht⟩
 ·exact ⟨none, 0, by rw [h3], by omega, by unfold maxLen; omega, Or.inl ⟨h3, rfl⟩⟩
 ·have hr := (RowAt.of_owns h0).same fun o ho => ucL_get us o ho
  exact ⟨some ⟨g, 0, none⟩, cap, rfl, hn, hm, Or.inr ⟨g, rfl, hg, hr.lt, hr⟩⟩

theorem ownsU_snoc {w : World} {base : Nat} {e : TypeId} {v : Value} {us : List M1.Upd} {u : M1.Upd} (h : w.ownsRow base e 13 v (us.length + 1) (ucL us ++ [.int .i64 u.dr, .int .i64 u.dn, .int .i64 u.sw, .int .i64 u.sc, .int .i64 u.sr, .int .i64 u.k, .int .i64 u.tr, .int .i64 u.id, .int .i64 u.pa, .string u.s, .int .i64 u.st, .int .i64 u.en, .int .i64 u.lv])) : w.ownsRow base e 13 v (us ++ [u]).length (ucL (us ++ [u])) := by
 rw [ucL_snoc]; simpa [ucs] using h

theorem ownsU_nil (w : World) (base : Nat) (e : TypeId) : w.ownsRow base e 13 (.slice none 0 0) ([] : List M1.Upd).length (ucL []) := ⟨rfl, Or.inl ⟨rfl, rfl⟩⟩

theorem ownsU_empty (w : World) (e : TypeId) : (w.alloc (.cells #[] e)).ownsRow w.heap.size e 13 (.slice (some ⟨w.heap.size, 0, none⟩) 0 0) ([] : List M1.Upd).length (ucL []) := by
 refine ⟨rfl, Or.inr ⟨w.heap.size, 0, #[], rfl, Nat.le_refl _, ?_, Nat.le_refl _, by unfold maxLen; omega, rfl, rfl⟩⟩
 show (w.heap.push (.cells #[] e))[w.heap.size]? = _
 simp

theorem news13 (w : World) (x0 x1 x2 x3 x4 x5 x6 x7 x8 x9 x10 x11 x12 : Value) (t : TypeId) : ∀ j u, [x0, x1, x2, x3, x4, x5, x6, x7, x8, x9, x10, x11, x12][j]? = some u → (w.alloc (.cells #[x0, x1, x2, x3, x4, x5, x6, x7, x8, x9, x10, x11, x12] t)).cell? ((⟨w.heap.size, 0, none⟩ : Addr).add j) = some u := by
 intro j u hu
 match j, hu with
 | 0, hu => simp at hu; subst hu; simp [Addr.add]
 | 1, hu => simp at hu; subst hu; simp [Addr.add]
 | 2, hu => simp at hu; subst hu; simp [Addr.add]
 | 3, hu => simp at hu; subst hu; simp [Addr.add]
 | 4, hu => simp at hu; subst hu; simp [Addr.add]
 | 5, hu => simp at hu; subst hu; simp [Addr.add]
 | 6, hu => simp at hu; subst hu; simp [Addr.add]
 | 7, hu => simp at hu; subst hu; simp [Addr.add]
 | 8, hu => simp at hu; subst hu; simp [Addr.add]
 | 9, hu => simp at hu; subst hu; simp [Addr.add]
 | 10, hu => simp at hu; subst hu; simp [Addr.add]
 | 11, hu => simp at hu; subst hu; simp [Addr.add]
 | 12, hu => simp at hu; subst hu; simp [Addr.add]
 | j + 13, hu => simp at hu

theorem one13 (u : M1.Upd) : ∀ v ∈ ucs u, v.oneCell' = true := by
 intro v hv
 simp [ucs] at hv
 rcases hv with rfl | rfl | rfl | rfl | rfl | rfl | rfl | rfl | rfl | rfl | rfl | rfl | rfl <;> rfl

end Go.Proofs.YtccendmoeelniaaGreatDoor

namespace M1
def ueq (a b : Upd) : Bool := decide (a.dr = b.dr ∧ a.dn = b.dn ∧ a.sw = b.sw ∧ a.sc = b.sc ∧ a.sr = b.sr ∧ a.k = b.k ∧ a.tr = b.tr ∧ a.id = b.id ∧ a.pa = b.pa ∧ a.s.toList = b.s.toList ∧ a.st = b.st ∧ a.en = b.en ∧ a.lv = b.lv)

def fd : List Upd → Int → Int → Option Upd
 | [], _, _ => none
 | u :: us, r, n => if u.dr = r ∧ u.dn = n then some u else fd us r n

def apart (us : List Upd) : Prop := ∀ i j, i < j → j < us.length → ¬ ((up us i).dr = (up us j).dr ∧ (up us i).dn = (up us j).dn)

def agree1 (xs : List Upd) (u : Upd) : Prop := ∀ i, i < xs.length → (up xs i).dr = u.dr ∧ (up xs i).dn = u.dn → ueq (up xs i) u = true

instance (xs : List Upd) (u : Upd) : Decidable (agree1 xs u) := by unfold agree1; exact inferInstance

def agreeTo (xs ys : List Upd) (m : Nat) : Prop := ∀ k, k < m → agree1 xs (up ys k)

instance (xs ys : List Upd) (m : Nat) : Decidable (agreeTo xs ys m) := by unfold agreeTo; exact inferInstance

theorem fd_is_none {r n : Int} : ∀ {us : List Upd}, (∀ i, i < us.length → ¬ ((up us i).dr = r ∧ (up us i).dn = n)) → fd us r n = none
 | [], _ => rfl
 | u :: us, h => by
  unfold fd
  have h0 : ¬ (u.dr = r ∧ u.dn = n) := h 0 (by simp)
  rw [if_neg h0]
  exact fd_is_none fun i hi => h (i + 1) (by simpa using hi)

theorem fol_ahead {a b : Upd} (h : fol a b = true) : a.dr < b.dr ∨ (a.dr = b.dr ∧ a.dn < b.dn) := by
 unfold fol at h
 by_cases e : b.dr = a.dr
 ·rw [if_pos e] at h
  simp at h; omega
 ·rw [if_neg e] at h
  simp at h; omega

theorem ok_ahead {us : List Upd} (h : ∀ j, j < us.length → okAt us j = true) {i : Nat} : ∀ j, i < j → j < us.length → (up us i).dr < (up us j).dr ∨ ((up us i).dr = (up us j).dr ∧ (up us i).dn < (up us j).dn)
 | 0, hij, _ => absurd hij (by omega)
 | j + 1, hij, hj => by
  have h2 : (up us j).dr < (up us (j + 1)).dr ∨ ((up us j).dr = (up us (j + 1)).dr ∧ (up us j).dn < (up us (j + 1)).dn) := by
   have h3 := h (j + 1) hj
   unfold okAt at h3
   simp at h3
   exact fol_ahead h3.2
  by_cases e : i = j
  ·rw [e]; exact h2
  ·have h1 := ok_ahead h (i := i) j (by omega) (by omega)
   omega

theorem ok_apart {us : List Upd} (h : ∀ j, j < us.length → okAt us j = true) : apart us := fun i j hij hj e => by
 have := ok_ahead h j hij hj
 omega

theorem fd_take {us : List Upd} (h : apart us) {k : Nat} (hk : k < us.length) : fd (us.take k) (up us k).dr (up us k).dn = none := by
 refine fd_is_none fun i hi => ?_
 have hl : (us.take k).length = k := by simp; omega
 rw [hl] at hi
 have e : up (us.take k) i = up us i := by
  unfold up
  simp [List.getD, hi]
 rw [e]
 exact h i k hi hk

theorem take_up {us : List Upd} {k : Nat} (hk : k < us.length) : us.take (k + 1) = us.take k ++ [up us k] := by
 rw [List.take_add_one]
 unfold up
 simp [List.getD, List.getElem?_eq_getElem hk]

end M1
namespace Go.Proofs.YtccendmoeelniaaGreatDoor
open Go.ChangeShapes Go.WideShapes Go.ChangeAt Go.RowKit
set_option linter.unusedSimpArgs false
def uv (u : M1.Upd) : Value := .agg #[.int .i64 u.dr, .int .i64 u.dn, .int .i64 u.sw, .int .i64 u.sc, .int .i64 u.sr, .int .i64 u.k, .int .i64 u.tr, .int .i64 u.id, .int .i64 u.pa, .string u.s, .int .i64 u.st, .int .i64 u.en, .int .i64 u.lv]

def dv (r n : Int) : Value := .agg #[.int .i64 r, .int .i64 n]

theorem ite_chain (p : Prop) [Decidable p] (q : Bool) (w : World) : (if p then Result.ok q w else Result.ok false w) = Result.ok (decide p && q) w := by
 by_cases h : p <;> simp [h]

theorem eqDotV (a b c d : Int) (w : World) : (Op.equalIn 10000 36 (.agg #[.int .i64 a, .int .i64 b]) (.agg #[.int .i64 c, .int .i64 d])).run Tryz.prog w = .ok (decide (a = c ∧ b = d)) w := by
 have h := run_equalIn_agg (P := Tryz.prog) w 9999 36 #[.int .i64 a, .int .i64 b] #[.int .i64 c, .int .i64 d] (by kernel_rfl) (by kernel_rfl)
 rw [h]
 simp [go_sem]
 by_cases h1 : a = c <;> by_cases h2 : b = d <;> simp [h1, h2]

theorem checkDot (e : Bool) (a b : Int) (w : World) : (Instr.checkKey e 10000 36 (.agg #[.int .i64 a, .int .i64 b])).run Tryz.prog w = .ok () w := by
 cases e <;> kernel_rfl

set_option maxHeartbeats 2000000 in
set_option maxRecDepth 100000 in
theorem eqU (a b : M1.Upd) (w : World) : (Op.equalIn 10000 38 (.agg #[.int .i64 a.dr, .int .i64 a.dn, .int .i64 a.sw, .int .i64 a.sc, .int .i64 a.sr, .int .i64 a.k, .int .i64 a.tr, .int .i64 a.id, .int .i64 a.pa, .string a.s, .int .i64 a.st, .int .i64 a.en, .int .i64 a.lv]) (.agg #[.int .i64 b.dr, .int .i64 b.dn, .int .i64 b.sw, .int .i64 b.sc, .int .i64 b.sr, .int .i64 b.k, .int .i64 b.tr, .int .i64 b.id, .int .i64 b.pa, .string b.s, .int .i64 b.st, .int .i64 b.en, .int .i64 b.lv])).run Tryz.prog w = .ok (M1.ueq a b) w := by
 have h := run_equalIn_agg (P := Tryz.prog) w 9999 38 #[.int .i64 a.dr, .int .i64 a.dn, .int .i64 a.sw, .int .i64 a.sc, .int .i64 a.sr, .int .i64 a.k, .int .i64 a.tr, .int .i64 a.id, .int .i64 a.pa, .string a.s, .int .i64 a.st, .int .i64 a.en, .int .i64 a.lv] #[.int .i64 b.dr, .int .i64 b.dn, .int .i64 b.sw, .int .i64 b.sc, .int .i64 b.sr, .int .i64 b.k, .int .i64 b.tr, .int .i64 b.id, .int .i64 b.pa, .string b.s, .int .i64 b.st, .int .i64 b.en, .int .i64 b.lv] (by kernel_rfl) (by kernel_rfl)
 rw [h]
 simp [go_sem]
 simp only [ite_chain]
 unfold M1.ueq
 congr 1
 simp

def MapIs (w : World) (b : Nat) (us : List M1.Upd) : Prop := ∃ es clock, w.heap[b]? = some (.map es clock) ∧ es.toList.map (fun e => (e.key, e.val)) = us.map (fun u => (dv u.dr u.dn, uv u))

theorem MapIs.lt {w : World} {b : Nat} {us : List M1.Upd} (h : MapIs w b us) : b < w.heap.size := by
 obtain ⟨es, clock, hb, _⟩ := h
 exact (Array.getElem?_eq_some_iff.1 hb).1

theorem MapIs.block {w w' : World} {b : Nat} {us : List M1.Upd} (h : MapIs w b us) (e : w'.heap[b]? = w.heap[b]?) : MapIs w' b us := by
 obtain ⟨es, clock, hb, h2⟩ := h
 exact ⟨es, clock, e.trans hb, h2⟩

theorem MapIs.below {w w' : World} {b B : Nat} {us : List M1.Upd} (h : MapIs w b us) (hB : Below B w w') (hb : b < B) : MapIs w' b us := h.block (hB.block b hb)

theorem MapIs.alloc {w : World} {b : Nat} {us : List M1.Upd} (h : MapIs w b us) (o : Obj) : MapIs (w.alloc o) b us :=
 h.below ((Below.refl w.heap.size w).alloc (Nat.le_refl _) o) h.lt

theorem MapIs.made (w : World) : MapIs (w.alloc (.map #[] 0)) w.heap.size [] := ⟨#[], 0, (MapKept.heap_alloc w _).1, rfl⟩

end Go.Proofs.YtccendmoeelniaaGreatDoor
