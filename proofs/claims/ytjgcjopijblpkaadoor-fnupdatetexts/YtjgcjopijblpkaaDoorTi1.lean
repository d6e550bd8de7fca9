/-
  Rows of numbers in memory of a call's own, and the contracts of the laws' readers and markers of them.
-/
import Derived.Test.YtjgcjopijblpkaaDoorMark
import Derived.Test.YtjgcjopijblpkaaDoorSet1
namespace Go.Proofs.YtjgcjopijblpkaaDoor
open Go.ChangeShapes Go.WideShapes Go.ChangeAt Go.RowKit
set_option linter.unusedSimpArgs false
set_option linter.unusedVariables false

def icell (zs : List Int) (o : Nat) : Value := .int .i64 (zs.getD o 0)
def MI (w : World) (av : Option Addr) (n cap lo hi : Nat) (f : Nat → Value) : Prop :=
  n ≤ cap ∧ cap ≤ maxLen ∧ ((n = 0 ∧ av = none) ∨ ∃ g, av = some ⟨g, 0, none⟩ ∧ lo ≤ g ∧ g < hi ∧ RowAt w g n f)
theorem MI.below {w w' : World} {av : Option Addr} {n cap lo hi : Nat} {f : Nat → Value} (h : MI w av n cap lo hi f) (hb : Below w.heap.size w w') : MI w' av n cap lo hi f :=
  ⟨h.1, h.2.1, h.2.2.imp id fun ⟨g, e, h1, h2, r⟩ => ⟨g, e, h1, h2, r.below hb⟩⟩
theorem MI.off {w w' : World} {av : Option Addr} {n cap lo hi g : Nat} {f : Nat → Value} (h : MI w av n cap lo hi f) (hg : Gr g w w') (hb : g < lo ∨ hi ≤ g) : MI w' av n cap lo hi f :=
  ⟨h.1, h.2.1, h.2.2.imp id fun ⟨k, e, h1, h2, r⟩ => ⟨k, e, h1, h2, r.gr hg (by omega)⟩⟩
theorem MI.mk {w w' : World} {av bv : Option Addr} {n cap lo hi m cm lo2 hi2 : Nat} {f f2 : Nat → Value} (h : MI w av n cap lo hi f) (h2 : MI w bv m cm lo2 hi2 f2) (hm : Mk bv w w') (hd : hi ≤ lo2 ∨ hi2 ≤ lo) : MI w' av n cap lo hi f := by
  refine ⟨h.1, h.2.1, ?_⟩
  rcases h.2.2 with h0 | ⟨g, e, h3, h4, r⟩
  · exact Or.inl h0
  · refine Or.inr ⟨g, e, h3, h4, ?_⟩
    rcases h2.2.2 with ⟨_, h0⟩ | ⟨g2, e2, h5, h6, _⟩
    · exact r.below (hm.1 h0)
    · exact r.gr (hm.2 g2 e2) (by omega)
theorem MI.mkBelow {w w' : World} {bv : Option Addr} {m cm lo2 hi2 B : Nat} {f2 : Nat → Value} (h2 : MI w bv m cm lo2 hi2 f2) (hm : Mk bv w w') (hB : B ≤ w.heap.size) (hlo : B ≤ lo2) : Below B w w' := by
  rcases h2.2.2 with ⟨_, h0⟩ | ⟨g2, e2, h5, h6, _⟩
  · exact (hm.1 h0).mono hB
  · exact gr_to (hm.2 g2 e2) hB (by omega)
theorem MI.wide {w : World} {av : Option Addr} {n cap lo hi lo2 hi2 : Nat} {f : Nat → Value} (h : MI w av n cap lo hi f) (hl : lo2 ≤ lo) (hh : hi ≤ hi2) : MI w av n cap lo2 hi2 f :=
  ⟨h.1, h.2.1, h.2.2.imp id fun ⟨g, e, h1, h2, r⟩ => ⟨g, e, by omega, by omega, r⟩⟩

end Go.Proofs.YtjgcjopijblpkaaDoor
