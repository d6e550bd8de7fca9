/-
  Texts of one proof, joined: JdS, Mark.
-/
import Derived.Test.YtccendmoeelniaaGreatDoorZFSameOps32
import Derived.Test.YtccendmoeelniaaGreatDoorZFSameOps04
import Derived.Test.YtccendmoeelniaaGreatDoorZFSameOps16
import Derived.BigQuiet
import Derived.Test.YtccendmoeelniaaGreatDoorZFSameOps03
namespace M1
end M1
namespace Go.Proofs.YtccendmoeelniaaGreatDoor
open Go.ChangeShapes Go.WideShapes Go.ChangeAt Go.RowKit
set_option linter.unusedSimpArgs false
set_option linter.unusedVariables false
theorem MU.widen {w : World} {av : Option Addr} {n cap lo hi lo' hi' : Nat} {f : Nat → Value} (h : MU w av n cap lo hi f) (h1 : lo' ≤ lo) (h2 : hi ≤ hi') : MU w av n cap lo' hi' f :=
 ⟨h.1, h.2.1, h.2.2.imp id fun ⟨k, e, h3, h4, r⟩ => ⟨k, e, by omega, by omega, r⟩⟩

end Go.Proofs.YtccendmoeelniaaGreatDoor

namespace Go.Proofs.YtccendmoeelniaaGreatDoor
open Go.ChangeShapes Go.WideShapes Go.ChangeAt Go.RowKit
def MV (w : World) (av : Option Addr) (n cap lo hi : Nat) (f : Nat → Value) : Prop :=
 n ≤ cap ∧ cap ≤ maxLen ∧ ((n = 0 ∧ av = none) ∨ ∃ g, av = some ⟨g, 0, none⟩ ∧ lo ≤ g ∧ g < hi ∧ RowAt w g (n * 2) f)

def Mk (av : Option Addr) (w w' : World) : Prop := (av = none → Below w.heap.size w w') ∧ ∀ g, av = some ⟨g, 0, none⟩ → Gr g w w'

theorem MV.below {w w' : World} {av : Option Addr} {n cap lo hi : Nat} {f : Nat → Value} (h : MV w av n cap lo hi f) (hb : Below w.heap.size w w') : MV w' av n cap lo hi f :=
 ⟨h.1, h.2.1, h.2.2.imp id fun ⟨g, e, h1, h2, r⟩ => ⟨g, e, h1, h2, r.below hb⟩⟩

theorem MV.mk {w w' : World} {av bv : Option Addr} {n cap lo hi m cm lo2 hi2 : Nat} {f f2 : Nat → Value} (h : MV w av n cap lo hi f) (h2 : MV w bv m cm lo2 hi2 f2) (hm : Mk bv w w') (hd : hi ≤ lo2 ∨ hi2 ≤ lo) : MV w' av n cap lo hi f := by
 refine ⟨h.1, h.2.1, ?_⟩
 rcases h.2.2 with h0 | ⟨g, e, h3, h4, r⟩
 ·exact Or.inl h0
 ·refine Or.inr ⟨g, e, h3, h4, ?_⟩
  rcases h2.2.2 with ⟨_, h0⟩ | ⟨g2, e2, h5, h6, _⟩
  ·exact r.below (hm.1 h0)
  ·exact r.gr (hm.2 g2 e2) (by omega)

theorem Mk.below {w w' : World} {bv : Option Addr} {m cm lo2 hi2 B : Nat} {f2 : Nat → Value} (h2 : MV w bv m cm lo2 hi2 f2) (hm : Mk bv w w') (hB : B ≤ w.heap.size) (hlo : B ≤ lo2) : Below B w w' := by
 rcases h2.2.2 with ⟨_, h0⟩ | ⟨g2, e2, h5, h6, _⟩
 ·exact (hm.1 h0).mono hB
 ·exact gr_to (hm.2 g2 e2) hB (by omega)

theorem MV.vec {w : World} {av : Option Addr} {n cap lo hi : Nat} {ds : List (Int × Int)} (h : MV w av n cap lo hi (dcell ds)) (hl : ds.length = n) : IsVec w av n cap ds := by
 rcases h.2.2 with ⟨h0, _⟩ | ⟨g, rfl, _, _, r⟩
 ·exact ⟨hl, h.1, h.2.1, Or.inl h0⟩
 ·exact isVec_of_row hl h.1 h.2.1 r

theorem MV.of_owns {w : World} {base : Nat} {e : TypeId} {v : Value} {ds : List (Int × Int)} (h : w.ownsRow base e 2 v ds.length (dcs ds)) : ∃ av cap, v = .slice av ds.length cap ∧ MV w av ds.length cap base w.heap.size (dcell ds) := by
 obtain ⟨av, cap, hv, hi, hr⟩ := owns_vec h
 exact ⟨av, cap, hv, hi.hcap, hi.hmost, hr.imp (fun h => ⟨h.2, h.1⟩) fun ⟨g, e, hb, r⟩ => ⟨g, e, hb, r.lt, r⟩⟩

end Go.Proofs.YtccendmoeelniaaGreatDoor
