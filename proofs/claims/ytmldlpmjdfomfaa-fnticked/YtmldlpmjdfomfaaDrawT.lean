/-
  The contracts of DrawTicked and DrawMet: stamps of numbers of their kind, and a time.
-/
import Derived.Test.YtmldlpmjdfomfaaBytes
import Derived.Test.YtmldlpmjdfomfaaDrawStamp
namespace Go.Proofs.Ytmldlpmjdfomfaa
open Go.ChangeShapes Go.WideShapes Go.ChangeAt Go.RowKit
set_option linter.unusedSimpArgs false

set_option maxHeartbeats 4000000 in
theorem drawTicked_any (av : Option Addr) (len cap : Nat) (w : World) (h : IsBytes w av len cap) :
    Calls Try.prog 12 #[.slice av len cap] w fun e w' => ∃ a b c t : Int, e = .returned (.tuple #[.agg #[.int .i64 a, .int .i64 b, .int .i64 c], .int .i64 t]) ∧ I64 a ∧ I64 b ∧ I64 c ∧ I64 t ∧ Below w.heap.size w w' := by
  go_enter Try.func12, Try.ntmps12
  go_wp2_with fail
  refine (l1Open_any _ _ _ _ (h.below (Nat.le_refl _) ((Below.refl _ _).alloc (Nat.le_refl _) _))).mono ?_
  rintro e w1 ⟨rfl, hR1, hb1⟩
  have hB1 : Below w.heap.size w w1 := ((Below.refl _ _).alloc (Nat.le_refl _) _).trans (hb1.mono (by simp <;> omega))
  obtain ⟨hc1, hf1⟩ := bcell hb1
  have q0 : RowAt w1 w.heap.size 3 (fun _ => .int .i64 0) := (RowAt.zero3 w 25).below hb1
  have hs1 := hR1.lt
  simp at hs1
  have hs1a : w.heap.size < w1.heap.size := by omega
  have hn0 : ¬ w.heap.size = w.heap.size + 1 := by omega
  go_wp2_with fail
  have hR1' : Rdr w1 (w.heap.size + 1) av len cap := by simpa using hR1
  refine (stamp_any _ _ _ _ _ hR1').mono ?_
  rintro e w2 ⟨a, b, c, rfl, ha, hb, hc, hR2, hG2⟩
  obtain ⟨rc, rf, rz, rn⟩ := gr_rules hG2
  have hs2 := hG2.size
  have hs2a : w.heap.size < w2.heap.size := by omega
  have hs2b : w.heap.size + 1 < w2.heap.size := by omega
  have hn2 : ¬ w2.heap.size = w.heap.size + 1 := by omega
  have hR3 := hR2.below ((Below.refl _ _).alloc (Nat.le_refl _) (.cells #[.int .i64 a, .int .i64 b, .int .i64 c] 25))
  go_wp2_with fail
  refine (once_any _ _ _ _ _ _ hR3 (by omega) (by omega)).mono ?_
  rintro e w3 ⟨q, rfl, hR4, hG3⟩
  have hs3 := hG3.size
  simp at hs3
  have hs3a : w.heap.size < w3.heap.size := by omega
  have hs3b : w2.heap.size < w3.heap.size := by omega
  have hs3c : w.heap.size < w2.heap.size + 1 := by omega
  obtain ⟨tc, tf, tz, tn⟩ := gr_rules hG3
  cases q
  · go_wp2_with fail
    refine wp_region_held_drew (S := fun w' => w'.cell? ⟨w2.heap.size, 0, none⟩ = some (.int .i64 a) ∧ w'.cell? ⟨w2.heap.size, 1, none⟩ = some (.int .i64 b) ∧ w'.cell? ⟨w2.heap.size, 2, none⟩ = some (.int .i64 c)) (by kernel_rfl) ?_ (fun hHeld => ?_)
    · refine ⟨?_, ?_, ?_⟩ <;> (go_simp; done)
    refine wpAnyH_take (i := 0) (v := ?_) rfl (by kernel_rfl) (by kernel_rfl) (by kernel_rfl) (fun _ _ _ h => h) (Or.inl ⟨by rfl, ?_⟩) hHeld ?_
    rotate_left
    · (intro w hSw; (try dsimp only at hSw); go_simp; try (with_reducible rfl))
    (try simp only [Act.put, List.getElem_toArray, List.getElem_cons_zero, List.getElem_cons_succ, List.setIfInBounds_toArray, List.set_cons_zero, List.set_cons_succ])
    refine wpAnyH_take (i := 1) (v := ?_) rfl (by kernel_rfl) (by kernel_rfl) (by kernel_rfl) (fun _ _ _ h => h) (Or.inl ⟨by rfl, ?_⟩) hHeld ?_
    rotate_left
    · (intro w hSw; (try dsimp only at hSw); go_simp; try (with_reducible rfl))
    (try simp only [Act.put, List.getElem_toArray, List.getElem_cons_zero, List.getElem_cons_succ, List.setIfInBounds_toArray, List.set_cons_zero, List.set_cons_succ])
    refine wpAnyH_ready (rs := [2]) (by kernel_rfl) (by simp) ?_
    refine AllReadyH.cons (o := _) rfl (fun K hK => ?_) AllReadyH.nil
    go_simp
    (refine (below_any _ _ _ _ _ _ (hR4.below (Below.refl _ _).drew) (by omega) (by omega)).mono ?_; rintro e w4 ⟨t, rfl, t0, t1, hR5, hG4⟩; go_wp2_with fail)
    refine hK.out _ _ ?_ (fun hHeld2 => ?_)
    · exact ⟨(gr_cell hG4 (by simp; omega) (by omega) 0).trans hHeld.1, (gr_cell hG4 (by simp; omega) (by omega) 1).trans hHeld.2.1, (gr_cell hG4 (by simp; omega) (by omega) 2).trans hHeld.2.2⟩
    clear hK K hHeld
    have hHeld := hHeld2
    clear hHeld2
    (try simp only [Act.put, List.getElem_toArray, List.getElem_cons_zero, List.getElem_cons_succ, List.setIfInBounds_toArray, List.set_cons_zero, List.set_cons_succ])
    have hs4 := hG4.size
    simp at hs4
    have hs4a : w.heap.size < w4.heap.size := by omega
    have hs4b : ¬ w.heap.size = w2.heap.size := by omega
    have r0 := (((q0.gr hG2 (by omega)).alloc (.cells #[.int .i64 a, .int .i64 b, .int .i64 c] 25)).gr hG3 (by omega)).drew.gr hG4 (by omega)
    have p00 := r0.cell (o := 0) (by omega)
    have p01 := r0.cell (o := 1) (by omega)
    have p02 := r0.cell (o := 2) (by omega)
    have y00 := r0.free (o := 0) (by omega)
    have y01 := r0.free (o := 1) (by omega)
    have y02 := r0.free (o := 2) (by omega)
    refine wpAnyH_ready (rs := [3]) (by kernel_rfl) (by simp) ?_
    refine AllReadyH.cons (o := _) rfl (fun K hK => ?_) AllReadyH.nil
    go_simp
    skip
    refine hK.out _ _ ?_ (fun hHeld2 => ?_)
    · exact ⟨(World.cell?_setCell_other _ _ _ _ (by simp <;> omega)).trans ((World.cell?_setCell_other _ _ _ _ (by simp <;> omega)).trans ((World.cell?_setCell_other _ _ _ _ (by simp <;> omega)).trans hHeld.1)), (World.cell?_setCell_other _ _ _ _ (by simp <;> omega)).trans ((World.cell?_setCell_other _ _ _ _ (by simp <;> omega)).trans ((World.cell?_setCell_other _ _ _ _ (by simp <;> omega)).trans hHeld.2.1)), (World.cell?_setCell_other _ _ _ _ (by simp <;> omega)).trans ((World.cell?_setCell_other _ _ _ _ (by simp <;> omega)).trans ((World.cell?_setCell_other _ _ _ _ (by simp <;> omega)).trans hHeld.2.2))⟩
    clear hK K hHeld
    have hHeld := hHeld2
    clear hHeld2
    (try simp only [Act.put, List.getElem_toArray, List.getElem_cons_zero, List.getElem_cons_succ, List.setIfInBounds_toArray, List.set_cons_zero, List.set_cons_succ])
    refine wpAnyH_take (i := 4) (v := ?_) rfl (by kernel_rfl) (by kernel_rfl) (by kernel_rfl) (fun _ _ _ h => h) (Or.inl ⟨by rfl, ?_⟩) hHeld ?_
    rotate_left
    · (intro w hSw; (try dsimp only at hSw); go_simp; try (with_reducible rfl))
    (try simp only [Act.put, List.getElem_toArray, List.getElem_cons_zero, List.getElem_cons_succ, List.setIfInBounds_toArray, List.set_cons_zero, List.set_cons_succ])
    refine wpAnyH_done (by kernel_rfl) ?_ _
    have K1 : Below w.heap.size w1 w2 := gr_to hG2 (by omega) (by omega)
    have K2 := gr_to (B := w.heap.size) hG3 (by simp; omega) (by omega)
    have K3 := gr_to (B := w.heap.size) hG4 (by simp; omega) (by omega)
    go_wp2_with fail
    clear rc rf rz rn tc tf tz tn hc1 hf1
    refine bodyPost_ret (v := .tuple #[.agg #[.int .i64 a, .int .i64 b, .int .i64 c], .int .i64 t]) (by simp [results, Try.results12, go_sem, cell_set_same, *]) rfl ⟨a, b, c, t, rfl, ha, hb, hc, ⟨by omega, by omega⟩, ?_⟩
    repeat (first | (with_reducible exact Below.refl _ _) | ((with_reducible refine Below.setCell ?_ ?_ _); rotate_left; (focus (first | omega | (simp; done) | (simp; omega)))) | ((with_reducible refine Below.alloc ?_ ?_ _); rotate_left; (focus (first | omega | (simp; done) | (simp; omega)))) | (with_reducible refine Below.drew ?_) | ((with_reducible refine Below.trans ?_ (Below.mono K3 ?_)); rotate_left; (focus (first | omega | (simp; done) | (simp; omega)))) | ((with_reducible refine Below.trans ?_ (Below.mono K2 ?_)); rotate_left; (focus (first | omega | (simp; done) | (simp; omega)))) | ((with_reducible refine Below.trans ?_ (Below.mono K1 ?_)); rotate_left; (focus (first | omega | (simp; done) | (simp; omega)))) | ((with_reducible refine Below.trans ?_ (Below.mono hB1 ?_)); rotate_left; (focus (first | omega | (simp; done) | (simp; omega)))))
  · go_wp2_with fail
    refine wp_region_held_drew (S := fun w' => w'.cell? ⟨w2.heap.size, 0, none⟩ = some (.int .i64 a) ∧ w'.cell? ⟨w2.heap.size, 1, none⟩ = some (.int .i64 b) ∧ w'.cell? ⟨w2.heap.size, 2, none⟩ = some (.int .i64 c)) (by kernel_rfl) ?_ (fun hHeld => ?_)
    · refine ⟨?_, ?_, ?_⟩ <;> (go_simp; done)
    refine wpAnyH_take (i := 0) (v := ?_) rfl (by kernel_rfl) (by kernel_rfl) (by kernel_rfl) (fun _ _ _ h => h) (Or.inl ⟨by rfl, ?_⟩) hHeld ?_
    rotate_left
    · (intro w hSw; (try dsimp only at hSw); go_simp; try (with_reducible rfl))
    (try simp only [Act.put, List.getElem_toArray, List.getElem_cons_zero, List.getElem_cons_succ, List.setIfInBounds_toArray, List.set_cons_zero, List.set_cons_succ])
    refine wpAnyH_take (i := 1) (v := ?_) rfl (by kernel_rfl) (by kernel_rfl) (by kernel_rfl) (fun _ _ _ h => h) (Or.inl ⟨by rfl, ?_⟩) hHeld ?_
    rotate_left
    · (intro w hSw; (try dsimp only at hSw); go_simp; try (with_reducible rfl))
    (try simp only [Act.put, List.getElem_toArray, List.getElem_cons_zero, List.getElem_cons_succ, List.setIfInBounds_toArray, List.set_cons_zero, List.set_cons_succ])
    refine wpAnyH_ready (rs := [2]) (by kernel_rfl) (by simp) ?_
    refine AllReadyH.cons (o := _) rfl (fun K hK => ?_) AllReadyH.nil
    go_simp
    (refine (off_any _ _ _ _ _ _ _ (hR4.below (Below.refl _ _).drew) (by omega) (by omega) (by omega)).mono ?_; rintro e w4 ⟨t, rfl, t0, t1, hR5, hG4⟩; go_wp2_with fail)
    refine hK.out _ _ ?_ (fun hHeld2 => ?_)
    · exact ⟨(gr_cell hG4 (by simp; omega) (by omega) 0).trans hHeld.1, (gr_cell hG4 (by simp; omega) (by omega) 1).trans hHeld.2.1, (gr_cell hG4 (by simp; omega) (by omega) 2).trans hHeld.2.2⟩
    clear hK K hHeld
    have hHeld := hHeld2
    clear hHeld2
    (try simp only [Act.put, List.getElem_toArray, List.getElem_cons_zero, List.getElem_cons_succ, List.setIfInBounds_toArray, List.set_cons_zero, List.set_cons_succ])
    have hs4 := hG4.size
    simp at hs4
    have hs4a : w.heap.size < w4.heap.size := by omega
    have hs4b : ¬ w.heap.size = w2.heap.size := by omega
    have r0 := (((q0.gr hG2 (by omega)).alloc (.cells #[.int .i64 a, .int .i64 b, .int .i64 c] 25)).gr hG3 (by omega)).drew.gr hG4 (by omega)
    have p00 := r0.cell (o := 0) (by omega)
    have p01 := r0.cell (o := 1) (by omega)
    have p02 := r0.cell (o := 2) (by omega)
    have y00 := r0.free (o := 0) (by omega)
    have y01 := r0.free (o := 1) (by omega)
    have y02 := r0.free (o := 2) (by omega)
    refine wpAnyH_ready (rs := [3]) (by kernel_rfl) (by simp) ?_
    refine AllReadyH.cons (o := _) rfl (fun K hK => ?_) AllReadyH.nil
    go_simp
    skip
    refine hK.out _ _ ?_ (fun hHeld2 => ?_)
    · exact ⟨(World.cell?_setCell_other _ _ _ _ (by simp <;> omega)).trans ((World.cell?_setCell_other _ _ _ _ (by simp <;> omega)).trans ((World.cell?_setCell_other _ _ _ _ (by simp <;> omega)).trans hHeld.1)), (World.cell?_setCell_other _ _ _ _ (by simp <;> omega)).trans ((World.cell?_setCell_other _ _ _ _ (by simp <;> omega)).trans ((World.cell?_setCell_other _ _ _ _ (by simp <;> omega)).trans hHeld.2.1)), (World.cell?_setCell_other _ _ _ _ (by simp <;> omega)).trans ((World.cell?_setCell_other _ _ _ _ (by simp <;> omega)).trans ((World.cell?_setCell_other _ _ _ _ (by simp <;> omega)).trans hHeld.2.2))⟩
    clear hK K hHeld
    have hHeld := hHeld2
    clear hHeld2
    (try simp only [Act.put, List.getElem_toArray, List.getElem_cons_zero, List.getElem_cons_succ, List.setIfInBounds_toArray, List.set_cons_zero, List.set_cons_succ])
    refine wpAnyH_take (i := 4) (v := ?_) rfl (by kernel_rfl) (by kernel_rfl) (by kernel_rfl) (fun _ _ _ h => h) (Or.inl ⟨by rfl, ?_⟩) hHeld ?_
    rotate_left
    · (intro w hSw; (try dsimp only at hSw); go_simp; try (with_reducible rfl))
    (try simp only [Act.put, List.getElem_toArray, List.getElem_cons_zero, List.getElem_cons_succ, List.setIfInBounds_toArray, List.set_cons_zero, List.set_cons_succ])
    refine wpAnyH_done (by kernel_rfl) ?_ _
    have K1 : Below w.heap.size w1 w2 := gr_to hG2 (by omega) (by omega)
    have K2 := gr_to (B := w.heap.size) hG3 (by simp; omega) (by omega)
    have K3 := gr_to (B := w.heap.size) hG4 (by simp; omega) (by omega)
    go_wp2_with fail
    clear rc rf rz rn tc tf tz tn hc1 hf1
    refine bodyPost_ret (v := .tuple #[.agg #[.int .i64 a, .int .i64 b, .int .i64 c], .int .i64 t]) (by simp [results, Try.results12, go_sem, cell_set_same, *]) rfl ⟨a, b, c, t, rfl, ha, hb, hc, ⟨by omega, by omega⟩, ?_⟩
    repeat (first | (with_reducible exact Below.refl _ _) | ((with_reducible refine Below.setCell ?_ ?_ _); rotate_left; (focus (first | omega | (simp; done) | (simp; omega)))) | ((with_reducible refine Below.alloc ?_ ?_ _); rotate_left; (focus (first | omega | (simp; done) | (simp; omega)))) | (with_reducible refine Below.drew ?_) | ((with_reducible refine Below.trans ?_ (Below.mono K3 ?_)); rotate_left; (focus (first | omega | (simp; done) | (simp; omega)))) | ((with_reducible refine Below.trans ?_ (Below.mono K2 ?_)); rotate_left; (focus (first | omega | (simp; done) | (simp; omega)))) | ((with_reducible refine Below.trans ?_ (Below.mono K1 ?_)); rotate_left; (focus (first | omega | (simp; done) | (simp; omega)))) | ((with_reducible refine Below.trans ?_ (Below.mono hB1 ?_)); rotate_left; (focus (first | omega | (simp; done) | (simp; omega)))))

set_option maxHeartbeats 8000000 in
theorem drawMet_any (av : Option Addr) (len cap : Nat) (w : World) (h : IsBytes w av len cap) :
    Calls Try.prog 15 #[.slice av len cap] w fun e w' => ∃ a b c x y z t : Int, e = .returned (.tuple #[.agg #[.int .i64 a, .int .i64 b, .int .i64 c], .agg #[.int .i64 x, .int .i64 y, .int .i64 z], .int .i64 t]) ∧ I64 a ∧ I64 b ∧ I64 c ∧ I64 x ∧ I64 y ∧ I64 z ∧ I64 t ∧ Below w.heap.size w w' := by
  go_enter Try.func15, Try.ntmps15
  go_wp2_with fail
  refine (l1Open_any _ _ _ _ (h.below (Nat.le_refl _) (((Below.refl _ _).alloc (Nat.le_refl _) _).alloc (by simp) _))).mono ?_
  rintro e w1 ⟨rfl, hR1, hb1⟩
  have hB1 : Below w.heap.size w w1 := (((Below.refl _ _).alloc (Nat.le_refl _) _).alloc (by simp) _).trans (hb1.mono (by simp; omega))
  have q0 : RowAt w1 w.heap.size 3 (fun _ => .int .i64 0) := ((RowAt.zero3 w 25).alloc _).below hb1
  have q1 : RowAt w1 (w.heap.size + 1) 3 (fun _ => .int .i64 0) := by
    have := (RowAt.zero3 (w.alloc (.cells #[.int .i64 0, .int .i64 0, .int .i64 0] 25)) 25).below hb1
    simpa using this
  have hs1 := hR1.lt
  simp at hs1
  go_wp2_with fail
  have hR1' : Rdr w1 (w.heap.size + 1 + 1) av len cap := by simpa using hR1
  refine (stamp_any _ _ _ _ _ hR1').mono ?_
  rintro e w2 ⟨a, b, c, rfl, ha, hb, hc, hR2, hG2⟩
  have hs2 := hG2.size
  have hn2 : ¬ w2.heap.size = w.heap.size + 1 + 1 := by omega
  have hR3 := hR2.below ((Below.refl _ _).alloc (Nat.le_refl _) (.cells #[.int .i64 a, .int .i64 b, .int .i64 c] 25))
  go_wp2_with fail
  refine (stamp_any _ _ _ _ _ hR3).mono ?_
  rintro e w3 ⟨x, y, z, rfl, hx, hy, hz, hR4, hG3⟩
  have hs3 := hG3.size
  simp at hs3
  have hn3 : ¬ w3.heap.size = w.heap.size + 1 + 1 := by omega
  have hR5 := hR4.below ((Below.refl _ _).alloc (Nat.le_refl _) (.cells #[.int .i64 x, .int .i64 y, .int .i64 z] 25))
  have ra : RowAt (w2.alloc (.cells #[.int .i64 a, .int .i64 b, .int .i64 c] 25)) w2.heap.size 3 (fun o => #[Value.int .i64 a, .int .i64 b, .int .i64 c].getD o undef) := RowAt.new w2 _ _
  have rb : RowAt (w3.alloc (.cells #[.int .i64 x, .int .i64 y, .int .i64 z] 25)) w3.heap.size 3 (fun o => #[Value.int .i64 x, .int .i64 y, .int .i64 z].getD o undef) := RowAt.new w3 _ _
  have ra' := ((ra.gr hG3 hn2).alloc (.cells #[.int .i64 x, .int .i64 y, .int .i64 z] 25)).drew
  have rb' := rb.drew
  go_wp2_with fail
  refine wp_region_held_drew (S := fun w' => w'.cell? ⟨w2.heap.size, 0, none⟩ = some (.int .i64 a) ∧ w'.cell? ⟨w2.heap.size, 1, none⟩ = some (.int .i64 b) ∧ w'.cell? ⟨w2.heap.size, 2, none⟩ = some (.int .i64 c) ∧ w'.cell? ⟨w3.heap.size, 0, none⟩ = some (.int .i64 x) ∧ w'.cell? ⟨w3.heap.size, 1, none⟩ = some (.int .i64 y) ∧ w'.cell? ⟨w3.heap.size, 2, none⟩ = some (.int .i64 z)) (by kernel_rfl) ?_ (fun hHeld => ?_)
  · exact ⟨ra'.cell (o := 0) (by omega), ra'.cell (o := 1) (by omega), ra'.cell (o := 2) (by omega), rb'.cell (o := 0) (by omega), rb'.cell (o := 1) (by omega), rb'.cell (o := 2) (by omega)⟩
  refine wpAnyH_take (i := 0) (v := ?_) rfl (by kernel_rfl) (by kernel_rfl) (by kernel_rfl) (fun _ _ _ h => h) (Or.inl ⟨by rfl, ?_⟩) hHeld ?_
  rotate_left
  · (intro w hSw; (try dsimp only at hSw); go_simp; try (with_reducible rfl))
  (try simp only [Act.put, List.getElem_toArray, List.getElem_cons_zero, List.getElem_cons_succ, List.setIfInBounds_toArray, List.set_cons_zero, List.set_cons_succ])
  refine wpAnyH_take (i := 1) (v := ?_) rfl (by kernel_rfl) (by kernel_rfl) (by kernel_rfl) (fun _ _ _ h => h) (Or.inl ⟨by rfl, ?_⟩) hHeld ?_
  rotate_left
  · (intro w hSw; (try dsimp only at hSw); go_simp; try (with_reducible rfl))
  (try simp only [Act.put, List.getElem_toArray, List.getElem_cons_zero, List.getElem_cons_succ, List.setIfInBounds_toArray, List.set_cons_zero, List.set_cons_succ])
  refine wpAnyH_take (i := 2) (v := ?_) rfl (by kernel_rfl) (by kernel_rfl) (by kernel_rfl) (fun _ _ _ h => h) (Or.inl ⟨by rfl, ?_⟩) hHeld ?_
  rotate_left
  · (intro w hSw; (try dsimp only at hSw); go_simp; try (with_reducible rfl))
  (try simp only [Act.put, List.getElem_toArray, List.getElem_cons_zero, List.getElem_cons_succ, List.setIfInBounds_toArray, List.set_cons_zero, List.set_cons_succ])
  refine wpAnyH_ready (rs := [3]) (by kernel_rfl) (by simp) ?_
  refine AllReadyH.cons (o := _) rfl (fun K hK => ?_) AllReadyH.nil
  go_simp
  (refine (below_any _ _ _ _ _ _ (hR5.below (Below.refl _ _).drew) (by omega) (by omega)).mono ?_; rintro e w5 ⟨t, rfl, t0, t1, hR6, hG5⟩; go_wp2_with fail)
  refine hK.out _ _ ?_ (fun hHeld2 => ?_)
  · exact ⟨(gr_cell hG5 (by simp <;> omega) (by omega) 0).trans hHeld.1, (gr_cell hG5 (by simp <;> omega) (by omega) 1).trans hHeld.2.1, (gr_cell hG5 (by simp <;> omega) (by omega) 2).trans hHeld.2.2.1, (gr_cell hG5 (by simp <;> omega) (by omega) 0).trans hHeld.2.2.2.1, (gr_cell hG5 (by simp <;> omega) (by omega) 1).trans hHeld.2.2.2.2.1, (gr_cell hG5 (by simp <;> omega) (by omega) 2).trans hHeld.2.2.2.2.2⟩
  clear hK K hHeld
  have hHeld := hHeld2
  clear hHeld2
  (try simp only [Act.put, List.getElem_toArray, List.getElem_cons_zero, List.getElem_cons_succ, List.setIfInBounds_toArray, List.set_cons_zero, List.set_cons_succ])
  have hs5 := hG5.size
  simp at hs5
  have r0 := (((((q0.gr hG2 (by omega)).alloc (.cells #[.int .i64 a, .int .i64 b, .int .i64 c] 25)).gr hG3 (by omega)).alloc (.cells #[.int .i64 x, .int .i64 y, .int .i64 z] 25)).drew).gr hG5 (by omega)
  have r1 := (((((q1.gr hG2 (by omega)).alloc (.cells #[.int .i64 a, .int .i64 b, .int .i64 c] 25)).gr hG3 (by omega)).alloc (.cells #[.int .i64 x, .int .i64 y, .int .i64 z] 25)).drew).gr hG5 (by omega)
  have p00 := r0.cell (o := 0) (by omega)
  have y00 := r0.free (o := 0) (by omega)
  have p01 := r0.cell (o := 1) (by omega)
  have y01 := r0.free (o := 1) (by omega)
  have p02 := r0.cell (o := 2) (by omega)
  have y02 := r0.free (o := 2) (by omega)
  have p10 := r1.cell (o := 0) (by omega)
  have y10 := r1.free (o := 0) (by omega)
  have p11 := r1.cell (o := 1) (by omega)
  have y11 := r1.free (o := 1) (by omega)
  have p12 := r1.cell (o := 2) (by omega)
  have y12 := r1.free (o := 2) (by omega)
  refine wpAnyH_ready (rs := [4]) (by kernel_rfl) (by simp) ?_
  refine AllReadyH.cons (o := _) rfl (fun K hK => ?_) AllReadyH.nil
  go_simp
  skip
  refine hK.out _ _ ?_ (fun hHeld2 => ?_)
  · exact ⟨(World.cell?_setCell_other _ _ _ _ (by simp <;> omega)).trans ((World.cell?_setCell_other _ _ _ _ (by simp <;> omega)).trans ((World.cell?_setCell_other _ _ _ _ (by simp <;> omega)).trans hHeld.1)), (World.cell?_setCell_other _ _ _ _ (by simp <;> omega)).trans ((World.cell?_setCell_other _ _ _ _ (by simp <;> omega)).trans ((World.cell?_setCell_other _ _ _ _ (by simp <;> omega)).trans hHeld.2.1)), (World.cell?_setCell_other _ _ _ _ (by simp <;> omega)).trans ((World.cell?_setCell_other _ _ _ _ (by simp <;> omega)).trans ((World.cell?_setCell_other _ _ _ _ (by simp <;> omega)).trans hHeld.2.2.1)), (World.cell?_setCell_other _ _ _ _ (by simp <;> omega)).trans ((World.cell?_setCell_other _ _ _ _ (by simp <;> omega)).trans ((World.cell?_setCell_other _ _ _ _ (by simp <;> omega)).trans hHeld.2.2.2.1)), (World.cell?_setCell_other _ _ _ _ (by simp <;> omega)).trans ((World.cell?_setCell_other _ _ _ _ (by simp <;> omega)).trans ((World.cell?_setCell_other _ _ _ _ (by simp <;> omega)).trans hHeld.2.2.2.2.1)), (World.cell?_setCell_other _ _ _ _ (by simp <;> omega)).trans ((World.cell?_setCell_other _ _ _ _ (by simp <;> omega)).trans ((World.cell?_setCell_other _ _ _ _ (by simp <;> omega)).trans hHeld.2.2.2.2.2))⟩
  clear hK K hHeld
  have hHeld := hHeld2
  clear hHeld2
  (try simp only [Act.put, List.getElem_toArray, List.getElem_cons_zero, List.getElem_cons_succ, List.setIfInBounds_toArray, List.set_cons_zero, List.set_cons_succ])
  refine wpAnyH_ready (rs := [5]) (by kernel_rfl) (by simp) ?_
  refine AllReadyH.cons (o := _) rfl (fun K hK => ?_) AllReadyH.nil
  go_simp
  skip
  refine hK.out _ _ ?_ (fun hHeld2 => ?_)
  · exact ⟨(World.cell?_setCell_other _ _ _ _ (by simp <;> omega)).trans ((World.cell?_setCell_other _ _ _ _ (by simp <;> omega)).trans ((World.cell?_setCell_other _ _ _ _ (by simp <;> omega)).trans hHeld.1)), (World.cell?_setCell_other _ _ _ _ (by simp <;> omega)).trans ((World.cell?_setCell_other _ _ _ _ (by simp <;> omega)).trans ((World.cell?_setCell_other _ _ _ _ (by simp <;> omega)).trans hHeld.2.1)), (World.cell?_setCell_other _ _ _ _ (by simp <;> omega)).trans ((World.cell?_setCell_other _ _ _ _ (by simp <;> omega)).trans ((World.cell?_setCell_other _ _ _ _ (by simp <;> omega)).trans hHeld.2.2.1)), (World.cell?_setCell_other _ _ _ _ (by simp <;> omega)).trans ((World.cell?_setCell_other _ _ _ _ (by simp <;> omega)).trans ((World.cell?_setCell_other _ _ _ _ (by simp <;> omega)).trans hHeld.2.2.2.1)), (World.cell?_setCell_other _ _ _ _ (by simp <;> omega)).trans ((World.cell?_setCell_other _ _ _ _ (by simp <;> omega)).trans ((World.cell?_setCell_other _ _ _ _ (by simp <;> omega)).trans hHeld.2.2.2.2.1)), (World.cell?_setCell_other _ _ _ _ (by simp <;> omega)).trans ((World.cell?_setCell_other _ _ _ _ (by simp <;> omega)).trans ((World.cell?_setCell_other _ _ _ _ (by simp <;> omega)).trans hHeld.2.2.2.2.2))⟩
  clear hK K hHeld
  have hHeld := hHeld2
  clear hHeld2
  (try simp only [Act.put, List.getElem_toArray, List.getElem_cons_zero, List.getElem_cons_succ, List.setIfInBounds_toArray, List.set_cons_zero, List.set_cons_succ])
  refine wpAnyH_take (i := 6) (v := ?_) rfl (by kernel_rfl) (by kernel_rfl) (by kernel_rfl) (fun _ _ _ h => h) (Or.inl ⟨by rfl, ?_⟩) hHeld ?_
  rotate_left
  · (intro w hSw; (try dsimp only at hSw); go_simp; try (with_reducible rfl))
  (try simp only [Act.put, List.getElem_toArray, List.getElem_cons_zero, List.getElem_cons_succ, List.setIfInBounds_toArray, List.set_cons_zero, List.set_cons_succ])
  refine wpAnyH_done (by kernel_rfl) ?_ _
  have K1 : Below w.heap.size w1 w2 := gr_to hG2 (by omega) (by omega)
  have K2 := gr_to (B := w.heap.size) hG3 (by simp; omega) (by omega)
  have K3 := gr_to (B := w.heap.size) hG5 (by simp; omega) (by omega)
  go_wp2_with fail
  refine bodyPost_ret (v := .tuple #[.agg #[.int .i64 a, .int .i64 b, .int .i64 c], .agg #[.int .i64 x, .int .i64 y, .int .i64 z], .int .i64 t]) (by simp [results, Try.results15, go_sem, cell_set_same, *]) rfl ⟨a, b, c, x, y, z, t, rfl, ha, hb, hc, hx, hy, hz, ⟨by omega, by omega⟩, ?_⟩
  repeat (first | (with_reducible exact Below.refl _ _) | ((with_reducible refine Below.setCell ?_ ?_ _); rotate_left; (focus (first | omega | (simp; done) | (simp; omega)))) | ((with_reducible refine Below.alloc ?_ ?_ _); rotate_left; (focus (first | omega | (simp; done) | (simp; omega)))) | (with_reducible refine Below.drew ?_) | ((with_reducible refine Below.trans ?_ (Below.mono K3 ?_)); rotate_left; (focus (first | omega | (simp; done) | (simp; omega)))) | ((with_reducible refine Below.trans ?_ (Below.mono K2 ?_)); rotate_left; (focus (first | omega | (simp; done) | (simp; omega)))) | ((with_reducible refine Below.trans ?_ (Below.mono K1 ?_)); rotate_left; (focus (first | omega | (simp; done) | (simp; omega)))) | ((with_reducible refine Below.trans ?_ (Below.mono hB1 ?_)); rotate_left; (focus (first | omega | (simp; done) | (simp; omega)))))
end Go.Proofs.Ytmldlpmjdfomfaa
