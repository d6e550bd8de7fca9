/-
  Contracts of the laws' readers of new worlds as a whole.
-/
import Derived.Test.YtpookiebkiigcaaZWorldNew28
namespace Go.Proofs.Ytpookiebkiigcaa
open Go.ChangeShapes Go.WideShapes Go.ChangeAt Go.RowKit
set_option linter.unusedSimpArgs false
set_option linter.unusedVariables false

theorem eqG_zero (av bv : Option Addr) (c d : Nat) (w : World) (hm : c ≤ maxLen) (hm2 : d ≤ maxLen) :
    Calls Try.prog 68 #[.slice av 0 c, .slice bv 0 d] w fun e w' => e = .returned (.bool true) ∧ Below w.heap.size w w' := by
  unfold maxLen at hm hm2
  go_enter Try.func68, Try.ntmps68
  go_wp2_with fail
  go_loopw [5] (fun i wr => i = .int .i64 0 ∧ Below w.heap.size w wr) (fun i _ => 0)
  case atStart => exact ⟨rfl, Below.refl _ _⟩
  case round =>
    obtain ⟨rfl, hB⟩ := hrel
    go_wp2_with fail
    go_ret
    exact ⟨rfl, hB⟩

theorem eqG_any (av bv : Option Addr) (n c d lo hi lo2 hi2 : Nat) (w : World) (h : MG w av n c lo hi rcell) (h2 : MG w bv n d lo2 hi2 rcell) :
    Calls Try.prog 68 #[.slice av n c, .slice bv n d] w fun e w' => e = .returned (.bool true) ∧ Below w.heap.size w w' := by
  by_cases hn : n = 0
  · subst hn; exact eqG_zero _ _ _ _ _ h.2.1 h2.2.1
  · rcases h.2.2 with ⟨h0, _⟩ | ⟨g, rfl, _, _, r⟩
    · exact absurd h0 hn
    rcases h2.2.2 with ⟨h0, _⟩ | ⟨g2, rfl, _, _, r2⟩
    · exact absurd h0 hn
    exact eqG_some _ _ _ _ _ _ r r2 h.1 h.2.1 h2.1 h2.2.1

theorem markG_any (av : Option Addr) (n c lo hi : Nat) (k : Int) (w : World) (h : MG w av n c lo hi rcell) (hn : n ≤ 1000) (hk : 0 ≤ k) (hk2 : k ≤ 1000000) :
    Calls Try.prog 70 #[.slice av n c, .int .i64 k] w fun e w' => e = .returned (.int .i64 (k + 4 * n)) ∧ MG w' av n c lo hi (nmc k) ∧ MkU av w w' := by
  rcases h.2.2 with ⟨rfl, rfl⟩ | ⟨g, rfl, h3, h4, r⟩
  · have hm := h.2.1
    unfold maxLen at hm
    go_enter Try.func70, Try.ntmps70
    go_wp2_with fail
    go_loopw [1, 5] (fun q i wr => q = .int .i64 k ∧ i = .int .i64 0 ∧ Below w.heap.size w wr) (fun _ i _ => 0)
    case atStart => exact ⟨rfl, rfl, Below.refl _ _⟩
    case round =>
      obtain ⟨rfl, rfl, hB⟩ := hrel
      go_wp2_with fail
      go_ret
      exact ⟨by simp, ⟨h.1, h.2.1, Or.inl ⟨rfl, rfl⟩⟩, fun _ => hB, fun g e => by cases e⟩
  · refine (markG_some _ _ _ _ _ _ r (fun p _ => rcell4 p) h.1 h.2.1 hn hk hk2).mono ?_
    rintro e w1 ⟨rfl, r1, hG⟩
    exact ⟨rfl, ⟨h.1, h.2.1, Or.inr ⟨g, rfl, h3, h4, r1⟩⟩, fun e => (by cases e), fun g2 e => by injection e with e; injection e with e; subst e; exact hG⟩

theorem heldG_any (av : Option Addr) (n c lo hi : Nat) (k : Int) (w : World) (h : MG w av n c lo hi (nmc k)) (hn : n ≤ 1000) (hk : 0 ≤ k) (hk2 : k ≤ 1000000) :
    Calls Try.prog 72 #[.slice av n c, .int .i64 k] w fun e w' => e = .returned (.int .i64 (k + 4 * n)) ∧ Below w.heap.size w w' := by
  rcases h.2.2 with ⟨rfl, rfl⟩ | ⟨g, rfl, h3, h4, r⟩
  · have hm := h.2.1
    unfold maxLen at hm
    go_enter Try.func72, Try.ntmps72
    go_wp2_with fail
    go_loopw [1, 5] (fun q i wr => q = .int .i64 k ∧ i = .int .i64 0 ∧ Below w.heap.size w wr) (fun _ i _ => 0)
    case atStart => exact ⟨rfl, rfl, Below.refl _ _⟩
    case round =>
      obtain ⟨rfl, rfl, hB⟩ := hrel
      go_wp2_with fail
      go_ret
      exact ⟨by simp, hB⟩
  · exact heldG_some _ _ _ _ _ r h.1 h.2.1 hn hk hk2

theorem eqM_none (w : World) :
    Calls Try.prog 69 #[.slice none 0 0, .slice none 0 0] w fun e w' => e = .returned (.bool true) ∧ Below w.heap.size w w' := by
  go_enter Try.func69, Try.ntmps69
  go_wp2_with fail
  go_loopw [5] (fun i wr => i = .int .i64 0 ∧ Below w.heap.size w wr) (fun i _ => 0)
  case atStart => exact ⟨rfl, Below.refl _ _⟩
  case round =>
    obtain ⟨rfl, hB⟩ := hrel
    go_wp2_with fail
    go_ret
    exact ⟨rfl, hB⟩

theorem markM_none (k : Int) (w : World) :
    Calls Try.prog 71 #[.slice none 0 0, .int .i64 k] w fun e w' => e = .returned (.int .i64 k) ∧ Below w.heap.size w w' := by
  go_enter Try.func71, Try.ntmps71
  go_wp2_with fail
  go_loopw [1, 5] (fun q i wr => q = .int .i64 k ∧ i = .int .i64 0 ∧ Below w.heap.size w wr) (fun _ i _ => 0)
  case atStart => exact ⟨rfl, rfl, Below.refl _ _⟩
  case round =>
    obtain ⟨rfl, rfl, hB⟩ := hrel
    go_wp2_with fail
    go_ret
    exact ⟨rfl, hB⟩

theorem heldM_none (k : Int) (w : World) :
    Calls Try.prog 73 #[.slice none 0 0, .int .i64 k] w fun e w' => e = .returned (.int .i64 k) ∧ Below w.heap.size w w' := by
  go_enter Try.func73, Try.ntmps73
  go_wp2_with fail
  go_loopw [1, 5] (fun q i wr => q = .int .i64 k ∧ i = .int .i64 0 ∧ Below w.heap.size w wr) (fun _ i _ => 0)
  case atStart => exact ⟨rfl, rfl, Below.refl _ _⟩
  case round =>
    obtain ⟨rfl, rfl, hB⟩ := hrel
    go_wp2_with fail
    go_ret
    exact ⟨rfl, hB⟩

set_option maxHeartbeats 4000000 in
theorem eqWorld_new (av bv : Option Addr) (n c d lo hi lo2 hi2 : Nat) (w : World) (h : MG w av n c lo hi rcell) (h2 : MG w bv n d lo2 hi2 rcell) :
    Calls Try.prog 34 #[.agg #[.int .i64 0, .slice av n c, .slice none 0 0], .agg #[.int .i64 0, .slice bv n d, .slice none 0 0]] w fun e w' => e = .returned (.bool true) ∧ Below w.heap.size w w' := by
  go_enter Try.func34, Try.ntmps34
  go_wp2_with fail
  refine (eqG_any _ _ _ _ _ _ _ _ _ _ (h.below (?_ : Below w.heap.size w _)) (h2.below (?_ : Below w.heap.size w _))).mono ?_
  · repeat (first | (with_reducible exact Below.refl _ _) | ((with_reducible refine Below.setCell ?_ ?_ _); rotate_left; (focus (first | omega | (simp; done) | (simp; omega)))) | ((with_reducible refine Below.alloc ?_ ?_ _); rotate_left; (focus (first | omega | (simp; done) | (simp; omega)))) | (with_reducible refine Below.drew ?_))
  · repeat (first | (with_reducible exact Below.refl _ _) | ((with_reducible refine Below.setCell ?_ ?_ _); rotate_left; (focus (first | omega | (simp; done) | (simp; omega)))) | ((with_reducible refine Below.alloc ?_ ?_ _); rotate_left; (focus (first | omega | (simp; done) | (simp; omega)))) | (with_reducible refine Below.drew ?_))
  rintro e w1 ⟨rfl, hb1⟩
  have A1 : Below w.heap.size w w1 := by
    have A0 := ((Below.refl w.heap.size w).alloc (Nat.le_refl _) (.cells #[.int .i64 0, .slice av n c, .slice none 0 0] 28)).alloc (by simp) (.cells #[.int .i64 0, .slice bv n d, .slice none 0 0] 28)
    exact A0.trans (hb1.mono A0.size)
  obtain ⟨hc1, hf1⟩ := bcell hb1
  have hs1 := hb1.size
  go_wp2_with fail
  refine (eqM_none _).mono ?_
  rintro e w2 ⟨rfl, hb2⟩
  go_wp2_with fail
  go_ret
  exact ⟨rfl, A1.trans (hb2.mono A1.size)⟩

set_option maxHeartbeats 4000000 in
theorem markWorld_new (av : Option Addr) (n c lo hi : Nat) (k : Int) (w : World) (h : MG w av n c lo hi rcell) (hn : n ≤ 1000) (hk : 0 ≤ k) (hk2 : k ≤ 1000000) (hhi : hi ≤ w.heap.size) :
    Calls Try.prog 35 #[.agg #[.int .i64 0, .slice av n c, .slice none 0 0], .int .i64 k] w fun e w' => e = .returned (.int .i64 (k + 4 * n)) ∧ MG w' av n c lo hi (nmc k) ∧ MkU av w w' := by
  go_enter Try.func35, Try.ntmps35
  go_wp2_with fail
  obtain ⟨W1, hW1⟩ : ∃ W, W = (w.alloc (.cells #[.int .i64 0, .slice av n c, .slice none 0 0] 28)) := ⟨_, rfl⟩
  have bb1 : Below w.heap.size w W1 := by rw [hW1]; exact (Below.refl _ _).alloc (Nat.le_refl _) _
  have hz1 : W1.heap.size = w.heap.size + 1 := by rw [hW1]; simp
  have rw1 : RowAt W1 w.heap.size 3 (fun o => (#[.int .i64 0, .slice av n c, .slice none 0 0] : Array Value).getD o undef) := by rw [hW1]; exact RowAt.new w _ _
  rw [← hW1]
  clear hW1
  refine (markG_any _ _ _ _ _ _ _ (h.below bb1) hn hk hk2).mono ?_
  rintro e w2 ⟨rfl, m2, mk2⟩
  have M2 : MkU av w w2 := ⟨fun e => by
    have q := mk2.1 e
    exact bb1.trans (q.mono bb1.size), fun g e => gr_trans (gr_below bb1) (mk2.2 g e)⟩
  have hfar : ∀ g, av = some ⟨g, 0, none⟩ → g < w.heap.size := fun g e => by
    rcases h.2.2 with ⟨_, e2⟩ | ⟨g2, e2, _, h4, _⟩
    · rw [e2] at e; cases e
    · rw [e2] at e; injection e with e; injection e with e; omega
  have rw2 : RowAt w2 w.heap.size 3 (fun o => (#[Value.int .i64 0, .slice av n c, .slice none 0 0] : Array Value).getD o undef) := by
    cases av with
    | none => exact rw1.below (mk2.1 rfl)
    | some a =>
      rcases h.2.2 with ⟨_, e2⟩ | ⟨g2, e2, _, h4, _⟩
      · cases e2
      · exact rw1.gr (mk2.2 g2 e2) (by omega)
  clear mk2 rw1
  have c0 := rw2.cell (o := 0) (by omega)
  have c1 := rw2.cell (o := 1) (by omega)
  have c2 := rw2.cell (o := 2) (by omega)
  simp at c0 c1 c2
  have cl := rw2.lt
  go_wp2_with fail
  refine (markM_none _ _).mono ?_
  rintro e w3 ⟨rfl, hb3⟩
  go_wp2_with fail
  go_ret
  exact ⟨rfl, m2.below hb3, fun e => (M2.1 e).trans (hb3.mono (M2.1 e).size), fun g e => gr_trans (M2.2 g e) (gr_below hb3)⟩

set_option maxHeartbeats 4000000 in
theorem heldWorld_new (av : Option Addr) (n c lo hi : Nat) (k : Int) (w : World) (h : MG w av n c lo hi (nmc k)) (hn : n ≤ 1000) (hk : 0 ≤ k) (hk2 : k ≤ 1000000) :
    Calls Try.prog 36 #[.agg #[.int .i64 0, .slice av n c, .slice none 0 0], .int .i64 k] w fun e w' => e = .returned (.int .i64 (k + 4 * n)) ∧ Below w.heap.size w w' := by
  go_enter Try.func36, Try.ntmps36
  go_wp2_with fail
  obtain ⟨W1, hW1⟩ : ∃ W, W = (w.alloc (.cells #[.int .i64 0, .slice av n c, .slice none 0 0] 28)) := ⟨_, rfl⟩
  have bb1 : Below w.heap.size w W1 := by rw [hW1]; exact (Below.refl _ _).alloc (Nat.le_refl _) _
  have hz1 : W1.heap.size = w.heap.size + 1 := by rw [hW1]; simp
  have rw1 : RowAt W1 w.heap.size 3 (fun o => (#[.int .i64 0, .slice av n c, .slice none 0 0] : Array Value).getD o undef) := by rw [hW1]; exact RowAt.new w _ _
  rw [← hW1]
  clear hW1
  refine (heldG_any _ _ _ _ _ _ _ (h.below bb1) hn hk hk2).mono ?_
  rintro e w2 ⟨rfl, hb2⟩
  have B2 : Below w.heap.size w w2 := bb1.trans (hb2.mono bb1.size)
  have rw2 := rw1.below hb2
  have e1 : ¬ k + 4 * (n : Int) < 0 := by omega
  clear rw1
  have c0 := rw2.cell (o := 0) (by omega)
  have c1 := rw2.cell (o := 1) (by omega)
  have c2 := rw2.cell (o := 2) (by omega)
  simp at c0 c1 c2
  have cl := rw2.lt
  go_wp2_with fail
  refine (heldM_none _ _).mono ?_
  rintro e w3 ⟨rfl, hb3⟩
  go_wp2_with fail
  go_ret
  exact ⟨rfl, B2.trans (hb3.mono B2.size)⟩
end Go.Proofs.Ytpookiebkiigcaa
