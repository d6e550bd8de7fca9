/-
  Texts of one proof, joined: Sp4, Sp6.
-/
import Derived.Test.YtnchbndgdkhldaaZSpans38
import Derived.Test.YtnchbndgdkhldaaZSpans35
namespace M1
/-- The spans of a trace, as updates, by rising number. -/
def sps (us : List Upd) (tr : Int) : List Upd := if setOk us = true then spTo us tr us.length else []
theorem sps_len (us : List Upd) (tr : Int) : (sps us tr).length ≤ us.length := by
  unfold sps
  split
  · exact spTo_len us tr us.length
  · simp
end M1
namespace Go.Proofs.Ytnchbndgdkhldaa
open Go.ChangeShapes Go.WideShapes Go.ChangeAt Go.RowKit
set_option linter.unusedSimpArgs false
set_option linter.unusedVariables false

/-- A list of spans in memory of one's own. -/
def SpW (w w' : World) (e : Ending) (r : List M1.Upd) : Prop := ∃ (a : Option Addr) (c : Nat), e = .returned (.slice a r.length c) ∧ MG w' a r.length c w.heap.size w'.heap.size (scell r)

set_option maxHeartbeats 4000000 in
set_option maxRecDepth 100000 in
theorem spansOf_spec (av : Option Addr) (n cn : Nat) (us : List M1.Upd) (tr : Int) (w : World) (h1 : IsUpds w av n cn us) :
    Calls Try.prog 12 #[.slice av n cn, .int .i64 tr] w fun e w' => SpW w w' e (M1.sps us tr) ∧ Below w.heap.size w w' := by
  have hl1 : Hid (us.length = n) := h1.hlen
  obtain ⟨ok, hok⟩ : ∃ b, Hid (M1.setOk us = b) := ⟨_, rfl⟩
  go_enter Try.func12, Try.ntmps12
  go_wp2_with fail
  refine (setOk_spec _ _ _ _ _ h1).mono ?_
  rw [hok.out]
  rintro e w1 ⟨rfl, hb1⟩
  cases ok with
  | false =>
    have HT : Hid (M1.sps us tr = []) := (by unfold M1.sps; rw [hok.out]; rfl : M1.sps us tr = [])
    have own0 := ownsS_empty w1 36
    have mg := MG.of_ownsS (us := []) rfl own0
    have hs1 := hb1.size
    go_wp2_with fail
    go_ret
    refine ⟨⟨some ⟨w1.heap.size, 0, none⟩, 0, ?_, ?_⟩, hb1.alloc hb1.size _⟩
    · rw [HT.out]; rfl
    · rw [HT.out]
      exact ⟨mg.1, mg.2.1, mg.2.2.imp id fun ⟨y, e, h3, h4, r⟩ => ⟨y, e, by omega, h4, r⟩⟩
  | true =>
    have HT : Hid (M1.sps us tr = M1.spTo us tr n) := (by unfold M1.sps; rw [if_pos hok.out, hl1.out] : M1.sps us tr = M1.spTo us tr n)
    have hn60 := M1.setOk_len hok.out
    rw [hl1.out] at hn60
    have hs1 := hb1.size
    go_wp2_with fail
    refine (l4Spans_any _ _ _ _ _ _ (h1.below hb1) (by omega)).mono ?_
    rintro e w2 ⟨⟨a, c, rfl, mg⟩, hb2⟩
    go_wp2_with fail
    go_ret
    refine ⟨⟨a, c, ?_, ?_⟩, hb1.trans (hb2.mono hb1.size)⟩
    · rw [HT.out]; rfl
    · rw [HT.out]
      exact ⟨mg.1, mg.2.1, mg.2.2.imp id fun ⟨y, e, h3, h4, r⟩ => ⟨y, e, by omega, h4, r⟩⟩
end Go.Proofs.Ytnchbndgdkhldaa

namespace Go.Proofs.Ytnchbndgdkhldaa
open Go.ChangeShapes Go.WideShapes Go.ChangeAt Go.RowKit
set_option linter.unusedSimpArgs false
set_option linter.unusedVariables false

/-- Only that row has turned; where there is none, nothing. -/
def MkP (av : Option Addr) (w w' : World) : Prop := (av = none → Below w.heap.size w w') ∧ ∀ g, av = some ⟨g, 0, none⟩ → Gr g w w'
theorem mkP_none {w w' : World} (h : Below w.heap.size w w') : MkP none w w' := ⟨fun _ => h, fun _ e => by cases e⟩
theorem mkP_some {w w' : World} {g : Nat} (h : Gr g w w') : MkP (some ⟨g, 0, none⟩) w w' := ⟨(fun e => by cases e), (fun g2 e => by injection e with e; injection e with e _ _; subst e; exact h)⟩
theorem MG.offP {w w' : World} {av : Option Addr} {n cap lo hi g : Nat} {f : Nat → Value} (h : MG w av n cap lo hi f) (hg : Gr g w w') (hb : g < lo ∨ hi ≤ g) : MG w' av n cap lo hi f :=
  ⟨h.1, h.2.1, h.2.2.imp id fun ⟨k, e, h1, h2, r⟩ => ⟨k, e, h1, h2, r.gr hg (by omega)⟩⟩
theorem MG.mkP {w w' : World} {av bv : Option Addr} {n cap lo hi m cm lo2 hi2 : Nat} {f f2 : Nat → Value} (h : MG w av n cap lo hi f) (h2 : MG w bv m cm lo2 hi2 f2) (hm : MkP bv w w') (hd : hi ≤ lo2 ∨ hi2 ≤ lo) : MG w' av n cap lo hi f := by
  refine ⟨h.1, h.2.1, ?_⟩
  rcases h.2.2 with h0 | ⟨g, e, h3, h4, r⟩
  · exact Or.inl h0
  · refine Or.inr ⟨g, e, h3, h4, ?_⟩
    rcases h2.2.2 with ⟨_, h0⟩ | ⟨g2, e2, h5, h6, _⟩
    · exact r.below (hm.1 h0)
    · exact r.gr (hm.2 g2 e2) (by omega)
theorem MG.mkBelowP {w w' : World} {bv : Option Addr} {m cm lo2 hi2 B : Nat} {f2 : Nat → Value} (h2 : MG w bv m cm lo2 hi2 f2) (hm : MkP bv w w') (hB : B ≤ w.heap.size) (hlo : B ≤ lo2) : Below B w w' := by
  rcases h2.2.2 with ⟨_, h0⟩ | ⟨g2, e2, h5, h6, _⟩
  · exact (hm.1 h0).mono hB
  · exact gr_to (hm.2 g2 e2) hB (by omega)

set_option maxHeartbeats 2000000 in
theorem eqSp_zero (a b : Option Addr) (c d : Nat) (w : World) :
    Calls Try.prog 21 #[.slice a 0 c, .slice b 0 d] w fun e w' => e = .returned (.bool true) ∧ Below w.heap.size w w' := by
  go_enter Try.func21, Try.ntmps21
  go_wp2_with fail
  go_loopw [5] (fun i wr => i = .int .i64 0 ∧ Below w.heap.size w wr) (fun i _ => 0)
  case atStart => exact ⟨rfl, Below.refl _ _⟩
  case round =>
    obtain ⟨rfl, hB⟩ := hrel
    go_wp2_with fail
    go_ret
    exact ⟨rfl, hB⟩

theorem eqSp_same (av bv : Option Addr) (n c d lo hi lo2 hi2 : Nat) (us : List M1.Upd) (w : World) (h1 : MG w av n c lo hi (scell us)) (h2 : MG w bv n d lo2 hi2 (scell us)) :
    Calls Try.prog 21 #[.slice av n c, .slice bv n d] w fun e w' => e = .returned (.bool true) ∧ Below w.heap.size w w' := by
  rcases h1.2.2 with ⟨h0, _⟩ | ⟨g, rfl, _, _, r⟩
  · subst h0; exact eqSp_zero _ _ _ _ _
  rcases h2.2.2 with ⟨h0, _⟩ | ⟨g2, rfl, _, _, r2⟩
  · subst h0; exact eqSp_zero _ _ _ _ _
  exact eqSp_some _ _ _ _ _ _ _ r r2 h1.1 h1.2.1 h2.1 h2.2.1

set_option maxHeartbeats 2000000 in
theorem markSp_any (av : Option Addr) (n cap lo hi : Nat) (f : Nat → Value) (k : Int) (w : World) (h : MG w av n cap lo hi f) (hn : n ≤ 1048576) (hk : 0 ≤ k) (hk2 : k ≤ 100000000) :
    Calls Try.prog 24 #[.slice av n cap, .int .i64 k] w fun e w' => e = .returned (.int .i64 (k + 5 * n)) ∧ MG w' av n cap lo hi (smc k) ∧ MkP av w w' := by
  obtain ⟨h1, h2, h3⟩ := h
  rcases h3 with ⟨rfl, rfl⟩ | ⟨g, rfl, hlo, hhi, hr⟩
  · go_enter Try.func24, Try.ntmps24
    go_wp2_with fail
    go_loopw [1, 5] (fun q i wr => q = .int .i64 k ∧ i = .int .i64 0 ∧ Below w.heap.size w wr) (fun _ i _ => 0)
    case atStart => exact ⟨rfl, rfl, Below.refl _ _⟩
    case round =>
      obtain ⟨rfl, rfl, hB⟩ := hrel
      go_wp2_with fail
      go_ret
      exact ⟨by simp, ⟨h1, h2, Or.inl ⟨rfl, rfl⟩⟩, mkP_none hB⟩
  · refine (markSp_some _ _ _ _ _ _ hr h1 h2 hn hk hk2).mono ?_
    rintro e w2 ⟨rfl, r2, hG⟩
    exact ⟨rfl, ⟨h1, h2, Or.inr ⟨g, rfl, hlo, hhi, r2⟩⟩, mkP_some hG⟩

set_option maxHeartbeats 2000000 in
theorem heldSp_any (av : Option Addr) (n cap lo hi : Nat) (k : Int) (w : World) (h : MG w av n cap lo hi (smc k)) (hn : n ≤ 1048576) (hk : 0 ≤ k) (hk2 : k ≤ 100000000) :
    Calls Try.prog 25 #[.slice av n cap, .int .i64 k] w fun e w' => e = .returned (.int .i64 (k + 5 * n)) ∧ Below w.heap.size w w' := by
  obtain ⟨h1, h2, h3⟩ := h
  rcases h3 with ⟨rfl, rfl⟩ | ⟨g, rfl, hlo, hhi, hr⟩
  · go_enter Try.func25, Try.ntmps25
    go_wp2_with fail
    go_loopw [1, 5] (fun q i wr => q = .int .i64 k ∧ i = .int .i64 0 ∧ Below w.heap.size w wr) (fun _ i _ => 0)
    case atStart => exact ⟨rfl, rfl, Below.refl _ _⟩
    case round =>
      obtain ⟨rfl, rfl, hB⟩ := hrel
      go_wp2_with fail
      go_ret
      exact ⟨by simp, hB⟩
  · exact heldSp_some _ _ _ _ _ hr h1 h2 hn hk hk2
end Go.Proofs.Ytnchbndgdkhldaa
