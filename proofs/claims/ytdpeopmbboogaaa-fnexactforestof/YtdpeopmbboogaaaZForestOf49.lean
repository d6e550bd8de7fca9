/-
  The laws' eqSpanS, markSpanS, heldSpanS at lists of one's own, or none.
-/
import Derived.Test.YtdpeopmbboogaaaZForestOf21
import Derived.Test.YtdpeopmbboogaaaZForestOf25
namespace Go.Proofs.Ytdpeopmbboogaaa
open Go.ChangeShapes Go.WideShapes Go.ChangeAt Go.RowKit
set_option linter.unusedSimpArgs false
set_option linter.unusedVariables false

/-- Only that row has turned; where there is none, nothing. -/
def MkP (av : Option Addr) (w w' : World) : Prop := (av = none → Below w.heap.size w w') ∧ ∀ g, av = some ⟨g, 0, none⟩ → Gr g w w'
theorem mkP_none {w w' : World} (h : Below w.heap.size w w') : MkP none w w' := ⟨fun _ => h, fun _ e => by cases e⟩
theorem mkP_some {w w' : World} {g : Nat} (h : Gr g w w') : MkP (some ⟨g, 0, none⟩) w w' := ⟨(fun e => by cases e), (fun g2 e => by injection e with e; injection e with e _ _; subst e; exact h)⟩
theorem MG.offP {w w' : World} {av : Option Addr} {n cap lo hi g : Nat} {f : Nat → Value} (h : MG w av n cap lo hi f) (hg : Gr g w w') (hb : g < lo ∨ hi ≤ g) : MG w' av n cap lo hi f :=
  ⟨h.1, h.2.1, h.2.2.imp id fun ⟨k, e, h1, h2, r⟩ => ⟨k, e, h1, h2, r.gr hg (by omega)⟩⟩
theorem MG.mkP {w w' : World} {av bv : Option Addr} {n cap lo hi m cm lo2 hi2 : Nat} {f f2 : Nat → Value} (h : MG w av n cap lo hi f) (h2 : MG w bv m cm lo2 hi2 f2) (hm : MkP bv w w') (hd : hi ≤ lo2 ∨ hi2 ≤ lo) : MG w' av n cap lo hi f := by
  refine ⟨h.1, h.2.1, ?_⟩
  rcases h.2.2 with h0 | ⟨g, e, h3, h4, r⟩
  · exact Or.inl h0
  · refine Or.inr ⟨g, e, h3, h4, ?_⟩
    rcases h2.2.2 with ⟨_, h0⟩ | ⟨g2, e2, h5, h6, _⟩
    · exact r.below (hm.1 h0)
    · exact r.gr (hm.2 g2 e2) (by omega)
theorem MG.mkBelowP {w w' : World} {bv : Option Addr} {m cm lo2 hi2 B : Nat} {f2 : Nat → Value} (h2 : MG w bv m cm lo2 hi2 f2) (hm : MkP bv w w') (hB : B ≤ w.heap.size) (hlo : B ≤ lo2) : Below B w w' := by
  rcases h2.2.2 with ⟨_, h0⟩ | ⟨g2, e2, h5, h6, _⟩
  · exact (hm.1 h0).mono hB
  · exact gr_to (hm.2 g2 e2) hB (by omega)

end Go.Proofs.Ytdpeopmbboogaaa
