/-
  Texts of one proof, joined: OwnU.
-/
import Derived.Test.YtgcinolbkllkkaaGreatZXWorldOk07
import Derived.Test.YtgcinolbkllkkaaGreatZXWorldOk04
import Derived.Test.YtgcinolbkllkkaaGreatZXWorldOk08
import Derived.Laws.BytesArg
import Derived.Deep.AppendLies
namespace Go.Proofs.YtgcinolbkllkkaaGreat
open Go.ChangeShapes Go.WideShapes Go.ChangeAt Go.RowKit
set_option linter.unusedSimpArgs false
set_option linter.unusedVariables false
def ucL (us : List M1.Upd) : List Value := us.flatMap ucs

theorem ucL_snoc (us : List M1.Upd) (u : M1.Upd) : ucL (us ++ [u]) = ucL us ++ ucs u := by simp [ucL]

theorem ucs_len (u : M1.Upd) : (ucs u).length = 13 := rfl

theorem ucL_len : ∀ us : List M1.Upd, (ucL us).length = us.length * 13
 | [] => rfl
 | d :: r => by
  have := ucL_len r
  simp only [ucL, List.flatMap_cons, List.length_append, ucs_len, List.length_cons] at this ⊢
  omega

theorem ucL_get : ∀ (us : List M1.Upd) (o : Nat), o < us.length * 13 → (ucL us).getD o undef = ucell us o
 | [], o, h => by simp at h
 | d :: r, o, h => by
  have e0 : ucL (d :: r) = ucs d ++ ucL r := rfl
  by_cases hlt : o < 13
  ·have e1 : (ucL (d :: r)).getD o undef = (ucs d).getD o undef := by
    rw [e0]; simp [List.getD, List.getElem?_append_left (show o < (ucs d).length by rw [ucs_len]; exact hlt)]
   rw [e1]
   unfold ucell
   rw [show o / 13 = 0 from by omega, show o % 13 = o from by omega]
   rfl
  ·obtain ⟨q, rfl⟩ : ∃ q, o = 13 + q := ⟨o - 13, by omega⟩
   have ih := ucL_get r q (by simp at h; omega)
   have e1 : (ucL (d :: r)).getD (13 + q) undef = (ucL r).getD q undef := by
    rw [e0]; simp [List.getD, List.getElem?_append_right (show (ucs d).length ≤ 13 + q by rw [ucs_len]; omega), ucs_len]
   have e2 : ucell (d :: r) (13 + q) = ucell r q := by
    unfold ucell
    rw [show (13 + q) / 13 = q / 13 + 1 from by omega, show (13 + q) % 13 = q % 13 from by omega]
    rfl
   rw [e1, e2, ih]

def MU (w : World) (av : Option Addr) (n cap lo hi : Nat) (f : Nat → Value) : Prop :=
 n ≤ cap ∧ cap ≤ maxLen ∧ ((n = 0 ∧ av = none) ∨ ∃ g, av = some ⟨g, 0, none⟩ ∧ lo ≤ g ∧ g < hi ∧ RowAt w g (n * 13) f)

def MkU (av : Option Addr) (w w' : World) : Prop := (av = none → Below w.heap.size w w') ∧ ∀ g, av = some ⟨g, 0, none⟩ → Gr g w w'

theorem MU.below {w w' : World} {av : Option Addr} {n cap lo hi : Nat} {f : Nat → Value} (h : MU w av n cap lo hi f) (hb : Below w.heap.size w w') : MU w' av n cap lo hi f :=
 ⟨h.1, h.2.1, h.2.2.imp id fun ⟨g, e, h1, h2, r⟩ => ⟨g, e, h1, h2, r.below hb⟩⟩

theorem MU.off {w w' : World} {av : Option Addr} {n cap lo hi g : Nat} {f : Nat → Value} (h : MU w av n cap lo hi f) (hg : Gr g w w') (hb : g < lo ∨ hi ≤ g) : MU w' av n cap lo hi f :=
 ⟨h.1, h.2.1, h.2.2.imp id fun ⟨k, e, h1, h2, r⟩ => ⟨k, e, h1, h2, r.gr hg (by omega)⟩⟩

theorem MU.mk {w w' : World} {av bv : Option Addr} {n cap lo hi m cm lo2 hi2 : Nat} {f f2 : Nat → Value} (h : MU w av n cap lo hi f) (h2 : MU w bv m cm lo2 hi2 f2) (hm : MkU bv w w') (hd : hi ≤ lo2 ∨ hi2 ≤ lo) : MU w' av n cap lo hi f := by
 rcases h2.2.2 with ⟨_, h0⟩ | ⟨g2, e2, h5, h6, _⟩
 ·exact h.below (hm.1 h0)
 ·exact h.off (hm.2 g2 e2) (by omega)

theorem MkU.below {w w' : World} {bv : Option Addr} {m cm lo2 hi2 B : Nat} {f2 : Nat → Value} (h2 : MU w bv m cm lo2 hi2 f2) (hm : MkU bv w w') (hB : B ≤ w.heap.size) (hlo : B ≤ lo2) : Below B w w' := by
 rcases h2.2.2 with ⟨_, h0⟩ | ⟨g2, e2, h5, h6, _⟩
 ·exact (hm.1 h0).mono hB
 ·exact gr_to (hm.2 g2 e2) hB (by omega)

theorem MU.upds {w : World} {av : Option Addr} {n cap lo hi : Nat} {us : List M1.Upd} (h : MU w av n cap lo hi (ucell us)) (hl : us.length = n) (ht : ∀ i, i < n → (M1.up us i).s.size ≤ maxLen) : IsUpds w av n cap us := by
 rcases h.2.2 with ⟨h0, _⟩ | ⟨g, rfl, _, _, r⟩
 ·exact ⟨hl, h.1, h.2.1, ht, Or.inl h0⟩
 ·exact isUpds_of_row hl h.1 h.2.1 ht r

theorem MU.of_owns {w : World} {base : Nat} {e : TypeId} {v : Value} {us : List M1.Upd} (h : w.ownsRow base e 13 v us.length (ucL us)) : ∃ av cap, v = .slice av us.length cap ∧ MU w av us.length cap base w.heap.size (ucell us) := by
 have h0 := h
 obtain ⟨h1, h2⟩ := h
 rcases h2 with ⟨rfl, h3⟩ | ⟨g, cap, cur, rfl, hg, hh, hn, hm, hs, ht⟩
 ·exact ⟨none, 0, by rw [h3], by omega, by unfold maxLen; omega, Or.inl ⟨h3, rfl⟩⟩
 ·have hr := (RowAt.of_owns h0).same fun o ho => ucL_get us o ho
  exact ⟨some ⟨g, 0, none⟩, cap, rfl, hn, hm, Or.inr ⟨g, rfl, hg, hr.lt, hr⟩⟩

theorem ownsU_nil (w : World) (base : Nat) (e : TypeId) : w.ownsRow base e 13 (.slice none 0 0) ([] : List M1.Upd).length (ucL []) := ⟨rfl, Or.inl ⟨rfl, rfl⟩⟩

theorem ownsU_empty (w : World) (e : TypeId) : (w.alloc (.cells #[] e)).ownsRow w.heap.size e 13 (.slice (some ⟨w.heap.size, 0, none⟩) 0 0) ([] : List M1.Upd).length (ucL []) := by
 refine ⟨rfl, Or.inr ⟨w.heap.size, 0, #[], rfl, Nat.le_refl _, ?_, Nat.le_refl _, by unfold maxLen; omega, rfl, rfl⟩⟩
 show (w.heap.push (.cells #[] e))[w.heap.size]? = _
 simp

theorem news13 (w : World) (x0 x1 x2 x3 x4 x5 x6 x7 x8 x9 x10 x11 x12 : Value) (t : TypeId) : ∀ j u, [x0, x1, x2, x3, x4, x5, x6, x7, x8, x9, x10, x11, x12][j]? = some u → (w.alloc (.cells #[x0, x1, x2, x3, x4, x5, x6, x7, x8, x9, x10, x11, x12] t)).cell? ((⟨w.heap.size, 0, none⟩ : Addr).add j) = some u := by
 intro j u hu
 match j, hu with
 | 0, hu => simp at hu; subst hu; simp [Addr.add]
 | 1, hu => simp at hu; subst hu; simp [Addr.add]
 | 2, hu => simp at hu; subst hu; simp [Addr.add]
 | 3, hu => simp at hu; subst hu; simp [Addr.add]
 | 4, hu => simp at hu; subst hu; simp [Addr.add]
 | 5, hu => simp at hu; subst hu; simp [Addr.add]
 | 6, hu => simp at hu; subst hu; simp [Addr.add]
 | 7, hu => simp at hu; subst hu; simp [Addr.add]
 | 8, hu => simp at hu; subst hu; simp [Addr.add]
 | 9, hu => simp at hu; subst hu; simp [Addr.add]
 | 10, hu => simp at hu; subst hu; simp [Addr.add]
 | 11, hu => simp at hu; subst hu; simp [Addr.add]
 | 12, hu => simp at hu; subst hu; simp [Addr.add]
 | j + 13, hu => simp at hu

theorem one13 (u : M1.Upd) : ∀ v ∈ ucs u, v.oneCell' = true := by
 intro v hv
 simp [ucs] at hv
 rcases hv with rfl | rfl | rfl | rfl | rfl | rfl | rfl | rfl | rfl | rfl | rfl | rfl | rfl <;> rfl

end Go.Proofs.YtgcinolbkllkkaaGreat
