/-
  Texts of one proof, joined: Rc1.
-/
import Derived.Test.YtbhidjagmonnaaaGreatDoorZSegments00
import Derived.Test.YtbhidjagmonnaaaGreatDoorZSegments01
import Derived.BigQuiet
import Derived.Deep.RegionHeld3
import Derived.WalkLawsBesides
namespace Go.Proofs.YtbhidjagmonnaaaGreatDoor
open Go.ChangeShapes Go.WideShapes Go.ChangeAt Go.RowKit
set_option linter.unusedSimpArgs false
set_option linter.unusedVariables false

/-- A reader of segments lies in block p: its text, its place. -/
abbrev SRd (w : World) (p : Nat) (s : ByteArray) (a : Nat) : Prop := RowAt w p 2 (fun o => [.string s, .int .i64 a].getD o undef)
theorem SRd.c0 {w : World} {p : Nat} {s : ByteArray} {a : Nat} (h : SRd w p s a) : w.cell? ⟨p, 0, none⟩ = some (.string s) := h.cell (o := 0) (by omega)
theorem SRd.c1 {w : World} {p : Nat} {s : ByteArray} {a : Nat} (h : SRd w p s a) : w.cell? ⟨p, 1, none⟩ = some (.int .i64 a) := h.cell (o := 1) (by omega)
theorem SRd.f1 {w : World} {p : Nat} {s : ByteArray} {a : Nat} (h : SRd w p s a) : w.frozen? ⟨p, 1, none⟩ = false := h.free (o := 1) (by omega)
theorem SRd.move {w : World} {p : Nat} {s : ByteArray} {a : Nat} (h : SRd w p s a) (b : Nat) : SRd (w.setCell ⟨p, 1, none⟩ (.int .i64 b)) p s b := by
  refine (h.set (o := 1) (by omega) (.int .i64 b)).same fun o ho => ?_
  match o, ho with
  | 0, _ => rfl
  | 1, _ => rfl
/-- A panic of the text's own. -/
def Pnc (e : Ending) : Prop := ∃ t v, e = .panicked [{ v := .iface t v, recovered := false }]

theorem want_yes (q : Value) (w : World) : Calls Tryz.prog 61 #[q, .bool true] w fun e w' => e = .returned (.tuple #[]) ∧ w' = w := by
  go_enter Tryz.func61, Tryz.ntmps61
  go_wp2_with fail
  go_end0
  exact ⟨rfl, rfl⟩
theorem want_no (q : Value) (w : World) : Calls Tryz.prog 61 #[q, .bool false] w fun e w' => Pnc e ∧ w' = w := by
  go_enter Tryz.func61, Tryz.ntmps61
  go_wp2_with fail
  exact ⟨rfl, ⟨_, _, rfl⟩, rfl⟩

set_option maxHeartbeats 4000000 in
set_option maxRecDepth 100000 in
theorem piece_yes (p : Nat) (s : ByteArray) (a n : Nat) (w : World) (h : SRd w p s a) (hs : s.size ≤ maxLen) (hn : a + n ≤ s.size) :
    Calls Tryz.prog 100 #[.pointer (some ⟨p, 0, none⟩), .int .i64 n] w fun e w' => e = .returned (.string (s.extract a (a + n))) ∧ SRd w' p s (a + n) ∧ Gr p w w' := by
  have c0 := h.c0
  have c1 := h.c1
  have f1 := h.f1
  have pl := h.lt
  unfold maxLen at hs
  have j1 : IntKind.i64.wrap ((s.size : Int) - a) = (s.size : Int) - a := IntWalk.i64_in _ (by omega)
  go_enter Tryz.func100, Tryz.ntmps100
  go_wp2_with fail
  refine wp_region_held_drew (S := fun w' => Kp w w') (by kernel_rfl) ?_ (fun hHeld => ?_)
  · exact kp_zero _
  refine wpAnyH_take (i := 0) (v := ?_) rfl (by kernel_rfl) (by kernel_rfl) (by kernel_rfl) (fun _ _ _ h => h) (Or.inl ⟨by rfl, ?_⟩) hHeld ?_
  rotate_left
  · (intro w hSw; (try dsimp only at hSw); go_simp; try (with_reducible rfl))
  (try simp only [Act.put, aZ, bZ, cZ, dZ, eZ, fZ])
  refine wpAnyH_take (i := 1) (v := ?_) rfl (by kernel_rfl) (by kernel_rfl) (by kernel_rfl) (fun _ _ _ h => h) (Or.inl ⟨by rfl, ?_⟩) hHeld ?_
  rotate_left
  · (intro w hSw; (try dsimp only at hSw); go_simp; try (with_reducible rfl))
  (try simp only [Act.put, aZ, bZ, cZ, dZ, eZ, fZ])
  refine wpAnyH_take (i := 2) (v := ?_) rfl (by kernel_rfl) (by kernel_rfl) (by kernel_rfl) (fun _ _ _ h => h) (Or.inl ⟨by rfl, ?_⟩) hHeld ?_
  rotate_left
  · (intro w hSw; (try dsimp only at hSw); go_simp; try (with_reducible rfl))
  (try simp only [Act.put, aZ, bZ, cZ, dZ, eZ, fZ])
  refine wpAnyH_take (i := 3) (v := ?_) rfl (by kernel_rfl) (by kernel_rfl) (by kernel_rfl) (fun _ _ _ h => h) (Or.inl ⟨by rfl, ?_⟩) hHeld ?_
  rotate_left
  · (intro w hSw; (try dsimp only at hSw); go_simp; try (with_reducible rfl))
  (try simp only [Act.put, aZ, bZ, cZ, dZ, eZ, fZ])
  refine wpAnyH_take (i := 4) (v := ?_) rfl (by kernel_rfl) (by kernel_rfl) (by kernel_rfl) (fun _ _ _ h => h) (Or.inl ⟨by rfl, ?_⟩) hHeld ?_
  rotate_left
  · (intro w hSw; (try dsimp only at hSw); go_simp; try (with_reducible rfl))
  (try simp only [Act.put, aZ, bZ, cZ, dZ, eZ, fZ])
  refine wpAnyH_take (i := 5) (v := ?_) rfl (by kernel_rfl) (by kernel_rfl) (by kernel_rfl) (fun _ _ _ h => h) (Or.inl ⟨by rfl, ?_⟩) hHeld ?_
  rotate_left
  · (intro w hSw; (try dsimp only at hSw); go_simp; try (with_reducible rfl))
  (try simp only [Act.put, aZ, bZ, cZ, dZ, eZ, fZ])
  refine wpAnyH_take (i := 6) (v := ?_) rfl (by kernel_rfl) (by kernel_rfl) (by kernel_rfl) (fun _ _ _ h => h) (Or.inl ⟨by rfl, ?_⟩) hHeld ?_
  rotate_left
  · (intro w hSw; (try dsimp only at hSw); go_simp; try (with_reducible rfl))
  (try simp only [Act.put, aZ, bZ, cZ, dZ, eZ, fZ])
  refine wpAnyH_take (i := 7) (v := ?_) rfl (by kernel_rfl) (by kernel_rfl) (by kernel_rfl) (fun _ _ _ h => h) (Or.inl ⟨by rfl, ?_⟩) hHeld ?_
  rotate_left
  · (intro w hSw; (try dsimp only at hSw); go_simp; try (with_reducible rfl))
  (try simp only [Act.put, aZ, bZ, cZ, dZ, eZ, fZ])
  refine wpAnyH_take (i := 8) (v := ?_) rfl (by kernel_rfl) (by kernel_rfl) (by kernel_rfl) (fun _ _ _ h => h) (Or.inl ⟨by rfl, ?_⟩) hHeld ?_
  rotate_left
  · (intro w hSw; (try dsimp only at hSw); go_simp; try (with_reducible rfl))
  (try simp only [Act.put, aZ, bZ, cZ, dZ, eZ, fZ])
  refine wpAnyH_take (i := 9) (v := ?_) rfl (by kernel_rfl) (by kernel_rfl) (by kernel_rfl) (fun _ _ _ h => h) (Or.inl ⟨by rfl, ?_⟩) hHeld ?_
  rotate_left
  · (intro w hSw; (try dsimp only at hSw); go_simp; try (with_reducible rfl))
  (try simp only [Act.put, aZ, bZ, cZ, dZ, eZ, fZ])
  refine wpAnyH_take (i := 10) (v := ?_) rfl (by kernel_rfl) (by kernel_rfl) (by kernel_rfl) (fun _ _ _ h => h) (Or.inl ⟨by rfl, ?_⟩) hHeld ?_
  rotate_left
  · (intro w hSw; (try dsimp only at hSw); go_simp; try (with_reducible rfl))
  (try simp only [Act.put, aZ, bZ, cZ, dZ, eZ, fZ])
  refine wpAnyH_take (i := 11) (v := .int .i64 ((s.size : Int) - a)) rfl (by kernel_rfl) (by kernel_rfl) (by kernel_rfl) (fun _ _ _ h => h) (Or.inl ⟨by rfl, ?_⟩) hHeld ?_
  · (intro w hSw; (try dsimp only at hSw); go_simp; skip)
  (try simp only [Act.put, aZ, bZ, cZ, dZ, eZ, fZ])
  refine wpAnyH_take (i := 12) (v := .bool true) rfl (by kernel_rfl) (by kernel_rfl) (by kernel_rfl) (fun _ _ _ h => h) (Or.inl ⟨by rfl, ?_⟩) hHeld ?_
  · (intro w hSw; (try dsimp only at hSw); go_simp; (first | done | omega | (simp; omega) | trace_state))
  (try simp only [Act.put, aZ, bZ, cZ, dZ, eZ, fZ])
  refine wpAnyH_ready (rs := [13]) (by kernel_rfl) (by simp) ?_
  refine AllReadyH.cons (o := _) rfl (fun K hK => ?_) AllReadyH.nil
  go_simp
  (refine (want_yes _ _).mono ?_; rintro e w5 ⟨rfl, rfl⟩; go_wp2_with fail)
  refine hK.out _ _ ?_ (fun hHeld2 => ?_)
  · exact hHeld
  clear hK K hHeld
  have hHeld := hHeld2
  clear hHeld2
  (try simp only [Act.put, aZ, bZ, cZ, dZ, eZ, fZ])
  refine wpAnyH_done (by kernel_rfl) ?_ _
  have hK1 := hHeld.1
  clear hHeld
  generalize w.drew = W1 at hK1 ⊢
  have h1 : SRd W1 p s a := h.below hK1
  have G1 : Gr p w W1 := gr_below hK1
  clear h c0 c1 f1 hK1
  have c0 := h1.c0
  have c1 := h1.c1
  have f1 := h1.f1
  have pl1 := h1.lt
  go_wp2_with fail
  obtain ⟨W2, hW2⟩ : ∃ W, W1.setCell ⟨p, 1, none⟩ (.int .i64 ((a : Int) + n)) = W := ⟨_, rfl⟩
  have h2 : SRd W2 p s (a + n) := by rw [← hW2]; exact h1.move (a + n)
  have G2 : Gr p w W2 := by rw [← hW2]; exact gr_set G1 _ _
  rw [hW2]
  clear c0 c1 f1 hW2 G1 h1 pl1
  have c0 := h2.c0
  have c1 := h2.c1
  have pl2 := h2.lt
  have i0 : (0 : Int) ≤ (a : Int) := by omega
  have i1 : (a : Int) ≤ ((a + n : Nat) : Int) := by omega
  have i2 : ((a + n : Nat) : Int) ≤ (s.size : Int) := by omega
  have hsl : ∀ w : World, Sem.run Tryz.prog (Instr.slice 9 (.string s) (some (.int .i64 (a : Int))) (some (.int .i64 ((a : Int) + n))) none) w = .ok (.string (s.extract a (a + n))) w := fun w => by
    have := run_slice_string (P := Tryz.prog) w 9 s .i64 .i64 (a : Int) ((a : Int) + n) Tryz.underlying9 (by omega) (by omega) (by omega)
    rw [this]
    rfl
  refine wp_region_held_drew (S := fun w' => Kp W2 w') (by kernel_rfl) ?_ (fun hHeld => ?_)
  · exact kp_zero _
  refine wpAnyH_take (i := 0) (v := ?_) rfl (by kernel_rfl) (by kernel_rfl) (by kernel_rfl) (fun _ _ _ h => h) (Or.inl ⟨by rfl, ?_⟩) hHeld ?_
  rotate_left
  · (intro w hSw; (try dsimp only at hSw); go_simp; try (with_reducible rfl))
  (try simp only [Act.put, aZ, bZ, cZ, dZ, eZ, fZ])
  refine wpAnyH_take (i := 1) (v := ?_) rfl (by kernel_rfl) (by kernel_rfl) (by kernel_rfl) (fun _ _ _ h => h) (Or.inl ⟨by rfl, ?_⟩) hHeld ?_
  rotate_left
  · (intro w hSw; (try dsimp only at hSw); go_simp; try (with_reducible rfl))
  (try simp only [Act.put, aZ, bZ, cZ, dZ, eZ, fZ])
  refine wpAnyH_take (i := 2) (v := ?_) rfl (by kernel_rfl) (by kernel_rfl) (by kernel_rfl) (fun _ _ _ h => h) (Or.inl ⟨by rfl, ?_⟩) hHeld ?_
  rotate_left
  · (intro w hSw; (try dsimp only at hSw); go_simp; try (with_reducible rfl))
  (try simp only [Act.put, aZ, bZ, cZ, dZ, eZ, fZ])
  refine wpAnyH_take (i := 3) (v := ?_) rfl (by kernel_rfl) (by kernel_rfl) (by kernel_rfl) (fun _ _ _ h => h) (Or.inl ⟨by rfl, ?_⟩) hHeld ?_
  rotate_left
  · (intro w hSw; (try dsimp only at hSw); go_simp; try (with_reducible rfl))
  (try simp only [Act.put, aZ, bZ, cZ, dZ, eZ, fZ])
  refine wpAnyH_take (i := 4) (v := ?_) rfl (by kernel_rfl) (by kernel_rfl) (by kernel_rfl) (fun _ _ _ h => h) (Or.inl ⟨by rfl, ?_⟩) hHeld ?_
  rotate_left
  · (intro w hSw; (try dsimp only at hSw); go_simp; try (with_reducible rfl))
  (try simp only [Act.put, aZ, bZ, cZ, dZ, eZ, fZ])
  refine wpAnyH_take (i := 5) (v := ?_) rfl (by kernel_rfl) (by kernel_rfl) (by kernel_rfl) (fun _ _ _ h => h) (Or.inl ⟨by rfl, ?_⟩) hHeld ?_
  rotate_left
  · (intro w hSw; (try dsimp only at hSw); go_simp; try (with_reducible rfl))
  (try simp only [Act.put, aZ, bZ, cZ, dZ, eZ, fZ])
  refine wpAnyH_take (i := 6) (v := ?_) rfl (by kernel_rfl) (by kernel_rfl) (by kernel_rfl) (fun _ _ _ h => h) (Or.inl ⟨by rfl, ?_⟩) hHeld ?_
  rotate_left
  · (intro w hSw; (try dsimp only at hSw); go_simp; try (with_reducible rfl))
  (try simp only [Act.put, aZ, bZ, cZ, dZ, eZ, fZ])
  refine wpAnyH_take (i := 7) (v := ?_) rfl (by kernel_rfl) (by kernel_rfl) (by kernel_rfl) (fun _ _ _ h => h) (Or.inl ⟨by rfl, ?_⟩) hHeld ?_
  rotate_left
  · (intro w hSw; (try dsimp only at hSw); go_simp; try (with_reducible rfl))
  (try simp only [Act.put, aZ, bZ, cZ, dZ, eZ, fZ])
  refine wpAnyH_take (i := 8) (v := ?_) rfl (by kernel_rfl) (by kernel_rfl) (by kernel_rfl) (fun _ _ _ h => h) (Or.inl ⟨by rfl, ?_⟩) hHeld ?_
  rotate_left
  · (intro w hSw; (try dsimp only at hSw); go_simp; try (with_reducible rfl))
  (try simp only [Act.put, aZ, bZ, cZ, dZ, eZ, fZ])
  refine wpAnyH_take (i := 9) (v := .string (s.extract a (a + n))) rfl (by kernel_rfl) (by kernel_rfl) (by kernel_rfl) (fun _ _ _ h => h) (Or.inl ⟨by rfl, ?_⟩) hHeld ?_
  · (intro w hSw; (try dsimp only at hSw); go_simp; (try (rw [hsl]; rfl)))
  (try simp only [Act.put, aZ, bZ, cZ, dZ, eZ, fZ])
  refine wpAnyH_take (i := 10) (v := ?_) rfl (by kernel_rfl) (by kernel_rfl) (by kernel_rfl) (fun _ _ _ h => h) (Or.inl ⟨by rfl, ?_⟩) hHeld ?_
  rotate_left
  · (intro w hSw; (try dsimp only at hSw); go_simp; try (with_reducible rfl))
  (try simp only [Act.put, aZ, bZ, cZ, dZ, eZ, fZ])
  refine wpAnyH_done (by kernel_rfl) ?_ _
  have hK1 := hHeld.1
  clear hHeld
  generalize W2.drew = W3 at hK1 ⊢
  have h3 : SRd W3 p s (a + n) := h2.below hK1
  have G3 : Gr p w W3 := gr_trans G2 (gr_below hK1)
  go_wp2_with fail
  go_ret
  exact ⟨rfl, h3, G3⟩

set_option maxHeartbeats 4000000 in
set_option maxRecDepth 100000 in
theorem piece_no (p : Nat) (s : ByteArray) (a n : Nat) (w : World) (h : SRd w p s a) (hs : s.size ≤ maxLen) (hn : ¬ a + n ≤ s.size) (ha : a ≤ s.size) (hn2 : n ≤ 1000) :
    Calls Tryz.prog 100 #[.pointer (some ⟨p, 0, none⟩), .int .i64 n] w fun e w' => Pnc e ∧ Gr p w w' := by
  have c0 := h.c0
  have c1 := h.c1
  have f1 := h.f1
  have pl := h.lt
  unfold maxLen at hs
  have j1 : IntKind.i64.wrap ((s.size : Int) - a) = (s.size : Int) - a := IntWalk.i64_in _ (by omega)
  go_enter Tryz.func100, Tryz.ntmps100
  go_wp2_with fail
  refine wp_region_held_drew (S := fun w' => Kp w w') (by kernel_rfl) ?_ (fun hHeld => ?_)
  · exact kp_zero _
  refine wpAnyH_take (i := 0) (v := ?_) rfl (by kernel_rfl) (by kernel_rfl) (by kernel_rfl) (fun _ _ _ h => h) (Or.inl ⟨by rfl, ?_⟩) hHeld ?_
  rotate_left
  · (intro w hSw; (try dsimp only at hSw); go_simp; try (with_reducible rfl))
  (try simp only [Act.put, aZ, bZ, cZ, dZ, eZ, fZ])
  refine wpAnyH_take (i := 1) (v := ?_) rfl (by kernel_rfl) (by kernel_rfl) (by kernel_rfl) (fun _ _ _ h => h) (Or.inl ⟨by rfl, ?_⟩) hHeld ?_
  rotate_left
  · (intro w hSw; (try dsimp only at hSw); go_simp; try (with_reducible rfl))
  (try simp only [Act.put, aZ, bZ, cZ, dZ, eZ, fZ])
  refine wpAnyH_take (i := 2) (v := ?_) rfl (by kernel_rfl) (by kernel_rfl) (by kernel_rfl) (fun _ _ _ h => h) (Or.inl ⟨by rfl, ?_⟩) hHeld ?_
  rotate_left
  · (intro w hSw; (try dsimp only at hSw); go_simp; try (with_reducible rfl))
  (try simp only [Act.put, aZ, bZ, cZ, dZ, eZ, fZ])
  refine wpAnyH_take (i := 3) (v := ?_) rfl (by kernel_rfl) (by kernel_rfl) (by kernel_rfl) (fun _ _ _ h => h) (Or.inl ⟨by rfl, ?_⟩) hHeld ?_
  rotate_left
  · (intro w hSw; (try dsimp only at hSw); go_simp; try (with_reducible rfl))
  (try simp only [Act.put, aZ, bZ, cZ, dZ, eZ, fZ])
  refine wpAnyH_take (i := 4) (v := ?_) rfl (by kernel_rfl) (by kernel_rfl) (by kernel_rfl) (fun _ _ _ h => h) (Or.inl ⟨by rfl, ?_⟩) hHeld ?_
  rotate_left
  · (intro w hSw; (try dsimp only at hSw); go_simp; try (with_reducible rfl))
  (try simp only [Act.put, aZ, bZ, cZ, dZ, eZ, fZ])
  refine wpAnyH_take (i := 5) (v := ?_) rfl (by kernel_rfl) (by kernel_rfl) (by kernel_rfl) (fun _ _ _ h => h) (Or.inl ⟨by rfl, ?_⟩) hHeld ?_
  rotate_left
  · (intro w hSw; (try dsimp only at hSw); go_simp; try (with_reducible rfl))
  (try simp only [Act.put, aZ, bZ, cZ, dZ, eZ, fZ])
  refine wpAnyH_take (i := 6) (v := ?_) rfl (by kernel_rfl) (by kernel_rfl) (by kernel_rfl) (fun _ _ _ h => h) (Or.inl ⟨by rfl, ?_⟩) hHeld ?_
  rotate_left
  · (intro w hSw; (try dsimp only at hSw); go_simp; try (with_reducible rfl))
  (try simp only [Act.put, aZ, bZ, cZ, dZ, eZ, fZ])
  refine wpAnyH_take (i := 7) (v := ?_) rfl (by kernel_rfl) (by kernel_rfl) (by kernel_rfl) (fun _ _ _ h => h) (Or.inl ⟨by rfl, ?_⟩) hHeld ?_
  rotate_left
  · (intro w hSw; (try dsimp only at hSw); go_simp; try (with_reducible rfl))
  (try simp only [Act.put, aZ, bZ, cZ, dZ, eZ, fZ])
  refine wpAnyH_take (i := 8) (v := ?_) rfl (by kernel_rfl) (by kernel_rfl) (by kernel_rfl) (fun _ _ _ h => h) (Or.inl ⟨by rfl, ?_⟩) hHeld ?_
  rotate_left
  · (intro w hSw; (try dsimp only at hSw); go_simp; try (with_reducible rfl))
  (try simp only [Act.put, aZ, bZ, cZ, dZ, eZ, fZ])
  refine wpAnyH_take (i := 9) (v := ?_) rfl (by kernel_rfl) (by kernel_rfl) (by kernel_rfl) (fun _ _ _ h => h) (Or.inl ⟨by rfl, ?_⟩) hHeld ?_
  rotate_left
  · (intro w hSw; (try dsimp only at hSw); go_simp; try (with_reducible rfl))
  (try simp only [Act.put, aZ, bZ, cZ, dZ, eZ, fZ])
  refine wpAnyH_take (i := 10) (v := ?_) rfl (by kernel_rfl) (by kernel_rfl) (by kernel_rfl) (fun _ _ _ h => h) (Or.inl ⟨by rfl, ?_⟩) hHeld ?_
  rotate_left
  · (intro w hSw; (try dsimp only at hSw); go_simp; try (with_reducible rfl))
  (try simp only [Act.put, aZ, bZ, cZ, dZ, eZ, fZ])
  refine wpAnyH_take (i := 11) (v := .int .i64 ((s.size : Int) - a)) rfl (by kernel_rfl) (by kernel_rfl) (by kernel_rfl) (fun _ _ _ h => h) (Or.inl ⟨by rfl, ?_⟩) hHeld ?_
  · (intro w hSw; (try dsimp only at hSw); go_simp; skip)
  (try simp only [Act.put, aZ, bZ, cZ, dZ, eZ, fZ])
  refine wpAnyH_take (i := 12) (v := .bool false) rfl (by kernel_rfl) (by kernel_rfl) (by kernel_rfl) (fun _ _ _ h => h) (Or.inl ⟨by rfl, ?_⟩) hHeld ?_
  · (intro w hSw; (try dsimp only at hSw); go_simp; (first | done | omega | (simp; omega) | trace_state))
  (try simp only [Act.put, aZ, bZ, cZ, dZ, eZ, fZ])
  refine wpAnyH_ready (rs := [13]) (by kernel_rfl) (by simp) ?_
  refine AllReadyH.cons (o := _) rfl (fun K hK => ?_) AllReadyH.nil
  go_simp
  refine (want_no _ _).mono ?_
  rintro e w5 ⟨⟨t, v, rfl⟩, rfl⟩
  clear hK
  dsimp only
  go_wp2_with fail
  exact ⟨rfl, ⟨_, _, rfl⟩, gr_below (Below.refl _ _).drew⟩
end Go.Proofs.YtbhidjagmonnaaaGreatDoor
