/-
  The laws' eqSpanS, markSpanS, heldSpanS at lists of one's own, or none.
-/
import Derived.Test.YtnchbndgdkhldaaZSpansOf29
import Derived.Test.YtnchbndgdkhldaaZSpansOf34
namespace Go.Proofs.Ytnchbndgdkhldaa
open Go.ChangeShapes Go.WideShapes Go.ChangeAt Go.RowKit
set_option linter.unusedSimpArgs false
set_option linter.unusedVariables false

/-- Only that row has turned; where there is none, nothing. -/
def MkP (av : Option Addr) (w w' : World) : Prop := (av = none → Below w.heap.size w w') ∧ ∀ g, av = some ⟨g, 0, none⟩ → Gr g w w'
theorem mkP_none {w w' : World} (h : Below w.heap.size w w') : MkP none w w' := ⟨fun _ => h, fun _ e => by cases e⟩
theorem mkP_some {w w' : World} {g : Nat} (h : Gr g w w') : MkP (some ⟨g, 0, none⟩) w w' := ⟨(fun e => by cases e), (fun g2 e => by injection e with e; injection e with e _ _; subst e; exact h)⟩
theorem MG.offP {w w' : World} {av : Option Addr} {n cap lo hi g : Nat} {f : Nat → Value} (h : MG w av n cap lo hi f) (hg : Gr g w w') (hb : g < lo ∨ hi ≤ g) : MG w' av n cap lo hi f :=
  ⟨h.1, h.2.1, h.2.2.imp id fun ⟨k, e, h1, h2, r⟩ => ⟨k, e, h1, h2, r.gr hg (by omega)⟩⟩
theorem MG.mkP {w w' : World} {av bv : Option Addr} {n cap lo hi m cm lo2 hi2 : Nat} {f f2 : Nat → Value} (h : MG w av n cap lo hi f) (h2 : MG w bv m cm lo2 hi2 f2) (hm : MkP bv w w') (hd : hi ≤ lo2 ∨ hi2 ≤ lo) : MG w' av n cap lo hi f := by
  refine ⟨h.1, h.2.1, ?_⟩
  rcases h.2.2 with h0 | ⟨g, e, h3, h4, r⟩
  · exact Or.inl h0
  · refine Or.inr ⟨g, e, h3, h4, ?_⟩
    rcases h2.2.2 with ⟨_, h0⟩ | ⟨g2, e2, h5, h6, _⟩
    · exact r.below (hm.1 h0)
    · exact r.gr (hm.2 g2 e2) (by omega)
theorem MG.mkBelowP {w w' : World} {bv : Option Addr} {m cm lo2 hi2 B : Nat} {f2 : Nat → Value} (h2 : MG w bv m cm lo2 hi2 f2) (hm : MkP bv w w') (hB : B ≤ w.heap.size) (hlo : B ≤ lo2) : Below B w w' := by
  rcases h2.2.2 with ⟨_, h0⟩ | ⟨g2, e2, h5, h6, _⟩
  · exact (hm.1 h0).mono hB
  · exact gr_to (hm.2 g2 e2) hB (by omega)

set_option maxHeartbeats 2000000 in
theorem eqSp_zero (a b : Option Addr) (c d : Nat) (w : World) :
    Calls Try.prog 21 #[.slice a 0 c, .slice b 0 d] w fun e w' => e = .returned (.bool true) ∧ Below w.heap.size w w' := by
  go_enter Try.func21, Try.ntmps21
  go_wp2_with fail
  go_loopw [5] (fun i wr => i = .int .i64 0 ∧ Below w.heap.size w wr) (fun i _ => 0)
  case atStart => exact ⟨rfl, Below.refl _ _⟩
  case round =>
    obtain ⟨rfl, hB⟩ := hrel
    go_wp2_with fail
    go_ret
    exact ⟨rfl, hB⟩

theorem eqSp_same (av bv : Option Addr) (n c d lo hi lo2 hi2 : Nat) (us : List M1.Upd) (w : World) (h1 : MG w av n c lo hi (scell us)) (h2 : MG w bv n d lo2 hi2 (scell us)) :
    Calls Try.prog 21 #[.slice av n c, .slice bv n d] w fun e w' => e = .returned (.bool true) ∧ Below w.heap.size w w' := by
  rcases h1.2.2 with ⟨h0, _⟩ | ⟨g, rfl, _, _, r⟩
  · subst h0; exact eqSp_zero _ _ _ _ _
  rcases h2.2.2 with ⟨h0, _⟩ | ⟨g2, rfl, _, _, r2⟩
  · subst h0; exact eqSp_zero _ _ _ _ _
  exact eqSp_some _ _ _ _ _ _ _ r r2 h1.1 h1.2.1 h2.1 h2.2.1

set_option maxHeartbeats 2000000 in
theorem markSp_any (av : Option Addr) (n cap lo hi : Nat) (f : Nat → Value) (k : Int) (w : World) (h : MG w av n cap lo hi f) (hn : n ≤ 1048576) (hk : 0 ≤ k) (hk2 : k ≤ 100000000) :
    Calls Try.prog 24 #[.slice av n cap, .int .i64 k] w fun e w' => e = .returned (.int .i64 (k + 5 * n)) ∧ MG w' av n cap lo hi (smc k) ∧ MkP av w w' := by
  obtain ⟨h1, h2, h3⟩ := h
  rcases h3 with ⟨rfl, rfl⟩ | ⟨g, rfl, hlo, hhi, hr⟩
  · go_enter Try.func24, Try.ntmps24
    go_wp2_with fail
    go_loopw [1, 5] (fun q i wr => q = .int .i64 k ∧ i = .int .i64 0 ∧ Below w.heap.size w wr) (fun _ i _ => 0)
    case atStart => exact ⟨rfl, rfl, Below.refl _ _⟩
    case round =>
      obtain ⟨rfl, rfl, hB⟩ := hrel
      go_wp2_with fail
      go_ret
      exact ⟨by simp, ⟨h1, h2, Or.inl ⟨rfl, rfl⟩⟩, mkP_none hB⟩
  · refine (markSp_some _ _ _ _ _ _ hr h1 h2 hn hk hk2).mono ?_
    rintro e w2 ⟨rfl, r2, hG⟩
    exact ⟨rfl, ⟨h1, h2, Or.inr ⟨g, rfl, hlo, hhi, r2⟩⟩, mkP_some hG⟩

set_option maxHeartbeats 2000000 in
theorem heldSp_any (av : Option Addr) (n cap lo hi : Nat) (k : Int) (w : World) (h : MG w av n cap lo hi (smc k)) (hn : n ≤ 1048576) (hk : 0 ≤ k) (hk2 : k ≤ 100000000) :
    Calls Try.prog 25 #[.slice av n cap, .int .i64 k] w fun e w' => e = .returned (.int .i64 (k + 5 * n)) ∧ Below w.heap.size w w' := by
  obtain ⟨h1, h2, h3⟩ := h
  rcases h3 with ⟨rfl, rfl⟩ | ⟨g, rfl, hlo, hhi, hr⟩
  · go_enter Try.func25, Try.ntmps25
    go_wp2_with fail
    go_loopw [1, 5] (fun q i wr => q = .int .i64 k ∧ i = .int .i64 0 ∧ Below w.heap.size w wr) (fun _ i _ => 0)
    case atStart => exact ⟨rfl, rfl, Below.refl _ _⟩
    case round =>
      obtain ⟨rfl, rfl, hB⟩ := hrel
      go_wp2_with fail
      go_ret
      exact ⟨by simp, hB⟩
  · exact heldSp_some _ _ _ _ _ hr h1 h2 hn hk hk2
end Go.Proofs.Ytnchbndgdkhldaa
