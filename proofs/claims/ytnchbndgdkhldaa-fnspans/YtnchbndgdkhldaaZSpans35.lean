/-
  Rows of spans in memory of a call's own, and the contracts of the laws' readers and markers of them.
-/
import Derived.Test.YtnchbndgdkhldaaZSpans34
import Derived.Test.YtnchbndgdkhldaaZSpans25
import Derived.Test.YtnchbndgdkhldaaZSpans33
namespace Go.Proofs.Ytnchbndgdkhldaa
open Go.ChangeShapes Go.WideShapes Go.ChangeAt Go.RowKit
set_option linter.unusedSimpArgs false
set_option linter.unusedVariables false

/-- The cells of an update's span; of a row of spans. -/
def scs (u : M1.Upd) : List Value := [.int .i64 u.id, .int .i64 u.pa, .string u.s, .int .i64 u.st, .int .i64 u.en]
def scell (us : List M1.Upd) (o : Nat) : Value := (scs (M1.up us (o / 5))).getD (o % 5) undef
theorem scell_at (us : List M1.Upd) (k j : Nat) (h : j < 5) : scell us (k * 5 + j) = (scs (M1.up us k)).getD j undef := by
  unfold scell
  rw [show (k * 5 + j) / 5 = k by omega, show (k * 5 + j) % 5 = j by omega]
def smc (k : Int) (o : Nat) : Value := if o % 5 = 2 then .string (M1.mtext (k + o)) else .int .i64 (k + o)
theorem smc_int (k : Int) (o : Nat) (h : ¬ o % 5 = 2) : smc k o = .int .i64 (k + o) := if_neg h
theorem smc_str (k : Int) (o : Nat) (h : o % 5 = 2) : smc k o = .string (M1.mtext (k + o)) := if_pos h

set_option maxHeartbeats 8000000 in
set_option maxRecDepth 100000 in
theorem eqSp_some (g g2 n cap cap2 : Nat) (us : List M1.Upd) (w : World) (h : RowAt w g (n * 5) (scell us)) (h2 : RowAt w g2 (n * 5) (scell us)) (hc : n ≤ cap) (hm : cap ≤ maxLen) (hc2 : n ≤ cap2) (hm2 : cap2 ≤ maxLen) :
    Calls Try.prog 21 #[.slice (some ⟨g, 0, none⟩) n cap, .slice (some ⟨g2, 0, none⟩) n cap2] w fun e w' => e = .returned (.bool true) ∧ Below w.heap.size w w' := by
  unfold maxLen at hm hm2
  have hnb : ((n : Int) != (n : Int)) = false := by simp
  go_enter Try.func21, Try.ntmps21
  go_wp2_with fail
  go_loopw [5] (fun i wr => ∃ p : Nat, p ≤ n ∧ i = .int .i64 p ∧ Below w.heap.size w wr) (fun i _ => n - (intOf i).toNat)
  case atStart => exact ⟨0, Nat.zero_le _, rfl, Below.refl _ _⟩
  case round =>
    obtain ⟨p, hp, rfl, hB⟩ := hrel
    by_cases hlt : p < n
    · have r1 := h.below hB
      have r2 := h2.below hB
      have hgl := r1.lt
      have hgl2 := r2.lt
      have i0 : (0 : Int) ≤ (p : Int) := by omega
      have i1 : (p : Int) < (n : Int) := by omega
      have z0 : scell us (p * 5) = .int .i64 (M1.up us p).id := scell_at us p 0 (by omega)
      have z1 : scell us (p * 5 + 1) = .int .i64 (M1.up us p).pa := scell_at us p 1 (by omega)
      have z2 : scell us (p * 5 + 2) = .string (M1.up us p).s := scell_at us p 2 (by omega)
      have z3 : scell us (p * 5 + 3) = .int .i64 (M1.up us p).st := scell_at us p 3 (by omega)
      have z4 : scell us (p * 5 + 4) = .int .i64 (M1.up us p).en := scell_at us p 4 (by omega)
      have d0 := r1.cell (o := p * 5) (by omega)
      have d1 := r1.cell (o := p * 5 + 1) (by omega)
      have d2 := r1.cell (o := p * 5 + 2) (by omega)
      have d3 := r1.cell (o := p * 5 + 3) (by omega)
      have d4 := r1.cell (o := p * 5 + 4) (by omega)
      have c0 := r2.cell (o := p * 5) (by omega)
      have c1 := r2.cell (o := p * 5 + 1) (by omega)
      have c2 := r2.cell (o := p * 5 + 2) (by omega)
      have c3 := r2.cell (o := p * 5 + 3) (by omega)
      have c4 := r2.cell (o := p * 5 + 4) (by omega)
      rw [z0] at d0 c0
      rw [z1] at d1 c1
      rw [z2] at d2 c2
      rw [z3] at d3 c3
      rw [z4] at d4 c4
      clear z0 z1 z2 z3 z4
      go_wp2_with fail
      refine wp_region_held_drew (S := fun w' => Kp wr w') (by kernel_rfl) ?_ (fun hHeld => ?_)
      · exact kp_zero _
      refine wpAnyH_take (i := 0) (v := ?_) rfl (by kernel_rfl) (by kernel_rfl) (by kernel_rfl) (fun _ _ _ h => h) (Or.inl ⟨by rfl, ?_⟩) hHeld ?_
      rotate_left
      · (intro w hSw; (try dsimp only at hSw); go_simp; try (with_reducible rfl))
      (try simp only [Act.put, List.getElem_toArray, List.getElem_cons_zero, List.getElem_cons_succ, List.setIfInBounds_toArray, List.set_cons_zero, List.set_cons_succ])
      refine wpAnyH_take (i := 1) (v := ?_) rfl (by kernel_rfl) (by kernel_rfl) (by kernel_rfl) (fun _ _ _ h => h) (Or.inl ⟨by rfl, ?_⟩) hHeld ?_
      rotate_left
      · (intro w hSw; (try dsimp only at hSw); go_simp; try (with_reducible rfl))
      (try simp only [Act.put, List.getElem_toArray, List.getElem_cons_zero, List.getElem_cons_succ, List.setIfInBounds_toArray, List.set_cons_zero, List.set_cons_succ])
      refine wpAnyH_take (i := 2) (v := ?_) rfl (by kernel_rfl) (by kernel_rfl) (by kernel_rfl) (fun _ _ _ h => h) (Or.inl ⟨by rfl, ?_⟩) hHeld ?_
      rotate_left
      · (intro w hSw; (try dsimp only at hSw); go_simp; try (with_reducible rfl))
      (try simp only [Act.put, List.getElem_toArray, List.getElem_cons_zero, List.getElem_cons_succ, List.setIfInBounds_toArray, List.set_cons_zero, List.set_cons_succ])
      refine wpAnyH_take (i := 3) (v := ?_) rfl (by kernel_rfl) (by kernel_rfl) (by kernel_rfl) (fun _ _ _ h => h) (Or.inl ⟨by rfl, ?_⟩) hHeld ?_
      rotate_left
      · (intro w hSw; (try dsimp only at hSw); go_simp; try (with_reducible rfl))
      (try simp only [Act.put, List.getElem_toArray, List.getElem_cons_zero, List.getElem_cons_succ, List.setIfInBounds_toArray, List.set_cons_zero, List.set_cons_succ])
      refine wpAnyH_take (i := 4) (v := ?_) rfl (by kernel_rfl) (by kernel_rfl) (by kernel_rfl) (fun _ _ _ h => h) (Or.inl ⟨by rfl, ?_⟩) hHeld ?_
      rotate_left
      · (intro w hSw; (try dsimp only at hSw); go_simp; try (with_reducible rfl))
      (try simp only [Act.put, List.getElem_toArray, List.getElem_cons_zero, List.getElem_cons_succ, List.setIfInBounds_toArray, List.set_cons_zero, List.set_cons_succ])
      refine wpAnyH_take (i := 5) (v := ?_) rfl (by kernel_rfl) (by kernel_rfl) (by kernel_rfl) (fun _ _ _ h => h) (Or.inl ⟨by rfl, ?_⟩) hHeld ?_
      rotate_left
      · (intro w hSw; (try dsimp only at hSw); go_simp; try (with_reducible rfl))
      (try simp only [Act.put, List.getElem_toArray, List.getElem_cons_zero, List.getElem_cons_succ, List.setIfInBounds_toArray, List.set_cons_zero, List.set_cons_succ])
      refine wpAnyH_take (i := 6) (v := ?_) rfl (by kernel_rfl) (by kernel_rfl) (by kernel_rfl) (fun _ _ _ h => h) (Or.inl ⟨by rfl, ?_⟩) hHeld ?_
      rotate_left
      · (intro w hSw; (try dsimp only at hSw); go_simp; try (with_reducible rfl))
      (try simp only [Act.put, List.getElem_toArray, List.getElem_cons_zero, List.getElem_cons_succ, List.setIfInBounds_toArray, List.set_cons_zero, List.set_cons_succ])
      refine wpAnyH_take (i := 7) (v := ?_) rfl (by kernel_rfl) (by kernel_rfl) (by kernel_rfl) (fun _ _ _ h => h) (Or.inl ⟨by rfl, ?_⟩) hHeld ?_
      rotate_left
      · (intro w hSw; (try dsimp only at hSw); go_simp; try (with_reducible rfl))
      (try simp only [Act.put, List.getElem_toArray, List.getElem_cons_zero, List.getElem_cons_succ, List.setIfInBounds_toArray, List.set_cons_zero, List.set_cons_succ])
      refine wpAnyH_ready (rs := [8]) (by kernel_rfl) (by simp) ?_
      refine AllReadyH.cons (o := _) rfl (fun K hK => ?_) AllReadyH.nil
      go_simp
      (refine (eqSpan_self _ _ _ _ _ _).mono ?_; rintro e w8 ⟨rfl, hb8⟩; go_wp2_with fail)
      refine hK.out _ _ ?_ (fun hHeld2 => ?_)
      · exact kp_step hHeld hb8
      clear hK K hHeld
      have hHeld := hHeld2
      clear hHeld2
      (try simp only [Act.put, List.getElem_toArray, List.getElem_cons_zero, List.getElem_cons_succ, List.setIfInBounds_toArray, List.set_cons_zero, List.set_cons_succ])
      refine wpAnyH_take (i := 9) (v := ?_) rfl (by kernel_rfl) (by kernel_rfl) (by kernel_rfl) (fun _ _ _ h => h) (Or.inl ⟨by rfl, ?_⟩) hHeld ?_
      rotate_left
      · (intro w hSw; (try dsimp only at hSw); go_simp; try (with_reducible rfl))
      (try simp only [Act.put, List.getElem_toArray, List.getElem_cons_zero, List.getElem_cons_succ, List.setIfInBounds_toArray, List.set_cons_zero, List.set_cons_succ])
      refine wpAnyH_done (by kernel_rfl) ?_ _
      have hB' := hB.trans (hHeld.1.mono hB.size)
      clear hHeld
      go_wp2_with fail
      exact ⟨⟨p + 1, by omega, by go_num, hB'⟩, by simp [intOf]; omega⟩
    · go_wp2_with fail
      go_ret
      exact ⟨rfl, hB⟩

set_option maxHeartbeats 8000000 in
set_option maxRecDepth 100000 in
theorem markSp_some (g n cap : Nat) (f : Nat → Value) (k : Int) (w : World) (h : RowAt w g (n * 5) f) (hc : n ≤ cap) (hm : cap ≤ maxLen) (hn : n ≤ 1048576) (hk : 0 ≤ k) (hk2 : k ≤ 100000000) :
    Calls Try.prog 24 #[.slice (some ⟨g, 0, none⟩) n cap, .int .i64 k] w fun e w' => e = .returned (.int .i64 (k + 5 * n)) ∧ RowAt w' g (n * 5) (smc k) ∧ Gr g w w' := by
  unfold maxLen at hm
  go_enter Try.func24, Try.ntmps24
  go_wp2_with fail
  go_loopw [1, 5] (fun q i wr => ∃ (p : Nat) (x : Int), p ≤ n ∧ i = .int .i64 p ∧ Hid (x = k + 5 * p) ∧ 0 ≤ x ∧ x ≤ 200000000 ∧ q = .int .i64 x ∧ Gr g w wr ∧ ∃ f', RowAt wr g (n * 5) f' ∧ Hid (∀ o, o < p * 5 → f' o = smc k o)) (fun _ i _ => n - (intOf i).toNat)
  case atStart => exact ⟨0, k, Nat.zero_le _, rfl, (by omega : k = k + 5 * ((0 : Nat) : Int)), by omega, by omega, rfl, gr_refl _ _, f, h, fun o ho => absurd ho (by omega)⟩
  case round =>
    obtain ⟨p, x, hp, rfl, hx, hx0, hx1, rfl, hG, f', hrow, hall⟩ := hrel
    have hgl := hrow.lt
    by_cases hlt : p < n
    · have i0 : (0 : Int) ≤ (p : Int) := by omega
      have i1 : (p : Int) < (n : Int) := by omega
      have hxb : x + 5 ≤ 200000000 := by have q := hx.out; omega
      have d0 := hrow.cell (o := p * 5) (by omega)
      have y0 := hrow.free (o := p * 5) (by omega)
      have d1 := hrow.cell (o := p * 5 + 1) (by omega)
      have y1 := hrow.free (o := p * 5 + 1) (by omega)
      go_wp2_with fail
      have r2 := (hrow.set (o := p * 5) (by omega) (.int .i64 x)).set (o := p * 5 + 1) (by omega) (.int .i64 (x + 1))
      have g2 := gr_set (gr_set hG (p * 5) (.int .i64 x)) (p * 5 + 1) (.int .i64 (x + 1))
      refine (markText_any _ _ (by omega) (by omega)).mono ?_
      rintro e w2 ⟨rfl, hb2⟩
      obtain ⟨f2, hf2, r3⟩ : ∃ f2, f2 = _ ∧ RowAt w2 g (n * 5) f2 := ⟨_, rfl, r2.below hb2⟩
      have G3 := gr_trans g2 (gr_below hb2)
      clear r2 g2 hb2 d0 y0 d1 y1
      have d2 := r3.cell (o := p * 5 + 2) (by omega)
      have y2 := r3.free (o := p * 5 + 2) (by omega)
      have d3 := r3.cell (o := p * 5 + 3) (by omega)
      have y3 := r3.free (o := p * 5 + 3) (by omega)
      have d4 := r3.cell (o := p * 5 + 4) (by omega)
      have y4 := r3.free (o := p * 5 + 4) (by omega)
      have hgl2 := r3.lt
      go_wp2_with fail
      have r6 := ((r3.set (o := p * 5 + 2) (by omega) (.string (M1.mtext (x + 1 + 1)))).set (o := p * 5 + 3) (by omega) (.int .i64 (x + 1 + 1 + 1))).set (o := p * 5 + 4) (by omega) (.int .i64 (x + 1 + 1 + 1 + 1))
      have g6 := gr_set (gr_set (gr_set G3 (p * 5 + 2) (.string (M1.mtext (x + 1 + 1)))) (p * 5 + 3) (.int .i64 (x + 1 + 1 + 1))) (p * 5 + 4) (.int .i64 (x + 1 + 1 + 1 + 1))
      refine ⟨⟨p + 1, x + 1 + 1 + 1 + 1 + 1, by omega, by go_num, (by have q := hx.out; omega : x + 1 + 1 + 1 + 1 + 1 = k + 5 * ((p + 1 : Nat) : Int)), by omega, by omega, rfl, g6, _, r6, fun o ho => ?_⟩, by simp [intOf]; omega⟩
      subst hf2
      have q := hx.out
      show (if o = p * 5 + 4 then _ else if o = p * 5 + 3 then _ else if o = p * 5 + 2 then _ else if o = p * 5 + 1 then _ else if o = p * 5 then _ else f' o) = _
      by_cases e4 : o = p * 5 + 4
      · rw [if_pos e4, smc_int k o (by omega)]; exact congrArg (fun z => Value.int .i64 z) (by omega)
      rw [if_neg e4]
      by_cases e3 : o = p * 5 + 3
      · rw [if_pos e3, smc_int k o (by omega)]; exact congrArg (fun z => Value.int .i64 z) (by omega)
      rw [if_neg e3]
      by_cases e2 : o = p * 5 + 2
      · rw [if_pos e2, smc_str k o (by omega)]; exact congrArg (fun z => Value.string (M1.mtext z)) (by omega)
      rw [if_neg e2]
      by_cases e1 : o = p * 5 + 1
      · rw [if_pos e1, smc_int k o (by omega)]; exact congrArg (fun z => Value.int .i64 z) (by omega)
      rw [if_neg e1]
      by_cases e0 : o = p * 5
      · rw [if_pos e0, smc_int k o (by omega)]; exact congrArg (fun z => Value.int .i64 z) (by omega)
      rw [if_neg e0]
      exact hall.out o (by omega)
    · have hpn : p = n := by omega
      have hrow' := hrow.same fun o ho => hall.out o (by rw [hpn]; exact ho)
      have HX : Hid (x = k + 5 * (n : Int)) := (by rw [← hpn]; exact hx.out : x = k + 5 * (n : Int))
      clear hpn
      go_wp2_with fail
      go_ret
      exact ⟨by rw [HX.out]; rfl, hrow', hG⟩

set_option maxHeartbeats 8000000 in
set_option maxRecDepth 100000 in
theorem heldSp_some (g n cap : Nat) (k : Int) (w : World) (h : RowAt w g (n * 5) (smc k)) (hc : n ≤ cap) (hm : cap ≤ maxLen) (hn : n ≤ 1048576) (hk : 0 ≤ k) (hk2 : k ≤ 100000000) :
    Calls Try.prog 25 #[.slice (some ⟨g, 0, none⟩) n cap, .int .i64 k] w fun e w' => e = .returned (.int .i64 (k + 5 * n)) ∧ Below w.heap.size w w' := by
  unfold maxLen at hm
  go_enter Try.func25, Try.ntmps25
  go_wp2_with fail
  go_loopw [1, 5] (fun q i wr => ∃ (p : Nat) (x : Int), p ≤ n ∧ i = .int .i64 p ∧ Hid (x = k + 5 * p) ∧ 0 ≤ x ∧ x ≤ 200000000 ∧ q = .int .i64 x ∧ Below w.heap.size w wr) (fun _ i _ => n - (intOf i).toNat)
  case atStart => exact ⟨0, k, Nat.zero_le _, rfl, (by omega : k = k + 5 * ((0 : Nat) : Int)), by omega, by omega, rfl, Below.refl _ _⟩
  case round =>
    obtain ⟨p, x, hp, rfl, hx, hx0, hx1, rfl, hB⟩ := hrel
    have hrow := h.below hB
    have hgl := hrow.lt
    by_cases hlt : p < n
    · have i0 : (0 : Int) ≤ (p : Int) := by omega
      have i1 : (p : Int) < (n : Int) := by omega
      have hxb : x + 5 ≤ 200000000 := by have q := hx.out; omega
      have d0 := hrow.cell (o := p * 5) (by omega)
      have d1 := hrow.cell (o := p * 5 + 1) (by omega)
      have d2 := hrow.cell (o := p * 5 + 2) (by omega)
      have d3 := hrow.cell (o := p * 5 + 3) (by omega)
      have d4 := hrow.cell (o := p * 5 + 4) (by omega)
      have q := hx.out
      rw [smc_int k _ (by omega), show k + ((p * 5 : Nat) : Int) = x by omega] at d0
      rw [smc_int k _ (by omega), show k + ((p * 5 + 1 : Nat) : Int) = x + 1 by omega] at d1
      rw [smc_str k _ (by omega), show k + ((p * 5 + 2 : Nat) : Int) = x + 1 + 1 by omega] at d2
      rw [smc_int k _ (by omega), show k + ((p * 5 + 3 : Nat) : Int) = x + 1 + 1 + 1 by omega] at d3
      rw [smc_int k _ (by omega), show k + ((p * 5 + 4 : Nat) : Int) = x + 1 + 1 + 1 + 1 by omega] at d4
      clear q
      go_wp2_with fail
      refine wp_region_held_drew (S := fun w' => Kp wr w') (by kernel_rfl) ?_ (fun hHeld => ?_)
      · exact kp_zero _
      refine wpAnyH_take (i := 0) (v := ?_) rfl (by kernel_rfl) (by kernel_rfl) (by kernel_rfl) (fun _ _ _ h => h) (Or.inl ⟨by rfl, ?_⟩) hHeld ?_
      rotate_left
      · (intro w hSw; (try dsimp only at hSw); go_simp; try (with_reducible rfl))
      (try simp only [Act.put, List.getElem_toArray, List.getElem_cons_zero, List.getElem_cons_succ, List.setIfInBounds_toArray, List.set_cons_zero, List.set_cons_succ])
      refine wpAnyH_take (i := 1) (v := ?_) rfl (by kernel_rfl) (by kernel_rfl) (by kernel_rfl) (fun _ _ _ h => h) (Or.inl ⟨by rfl, ?_⟩) hHeld ?_
      rotate_left
      · (intro w hSw; (try dsimp only at hSw); go_simp; try (with_reducible rfl))
      (try simp only [Act.put, List.getElem_toArray, List.getElem_cons_zero, List.getElem_cons_succ, List.setIfInBounds_toArray, List.set_cons_zero, List.set_cons_succ])
      refine wpAnyH_take (i := 2) (v := ?_) rfl (by kernel_rfl) (by kernel_rfl) (by kernel_rfl) (fun _ _ _ h => h) (Or.inl ⟨by rfl, ?_⟩) hHeld ?_
      rotate_left
      · (intro w hSw; (try dsimp only at hSw); go_simp; try (with_reducible rfl))
      (try simp only [Act.put, List.getElem_toArray, List.getElem_cons_zero, List.getElem_cons_succ, List.setIfInBounds_toArray, List.set_cons_zero, List.set_cons_succ])
      refine wpAnyH_take (i := 3) (v := ?_) rfl (by kernel_rfl) (by kernel_rfl) (by kernel_rfl) (fun _ _ _ h => h) (Or.inl ⟨by rfl, ?_⟩) hHeld ?_
      rotate_left
      · (intro w hSw; (try dsimp only at hSw); go_simp; try (with_reducible rfl))
      (try simp only [Act.put, List.getElem_toArray, List.getElem_cons_zero, List.getElem_cons_succ, List.setIfInBounds_toArray, List.set_cons_zero, List.set_cons_succ])
      refine wpAnyH_take (i := 4) (v := ?_) rfl (by kernel_rfl) (by kernel_rfl) (by kernel_rfl) (fun _ _ _ h => h) (Or.inl ⟨by rfl, ?_⟩) hHeld ?_
      rotate_left
      · (intro w hSw; (try dsimp only at hSw); go_simp; try (with_reducible rfl))
      (try simp only [Act.put, List.getElem_toArray, List.getElem_cons_zero, List.getElem_cons_succ, List.setIfInBounds_toArray, List.set_cons_zero, List.set_cons_succ])
      refine wpAnyH_take (i := 5) (v := ?_) rfl (by kernel_rfl) (by kernel_rfl) (by kernel_rfl) (fun _ _ _ h => h) (Or.inl ⟨by rfl, ?_⟩) hHeld ?_
      rotate_left
      · (intro w hSw; (try dsimp only at hSw); go_simp; try (with_reducible rfl))
      (try simp only [Act.put, List.getElem_toArray, List.getElem_cons_zero, List.getElem_cons_succ, List.setIfInBounds_toArray, List.set_cons_zero, List.set_cons_succ])
      refine wpAnyH_ready (rs := [6]) (by kernel_rfl) (by simp) ?_
      refine AllReadyH.cons (o := _) rfl (fun K hK => ?_) AllReadyH.nil
      go_simp
      (refine (markText_any _ _ (by omega) (by omega)).mono ?_; rintro e w8 ⟨rfl, hb8⟩; go_wp2_with fail)
      refine hK.out _ _ ?_ (fun hHeld2 => ?_)
      · exact kp_step hHeld hb8
      clear hK K hHeld
      have hHeld := hHeld2
      clear hHeld2
      (try simp only [Act.put, List.getElem_toArray, List.getElem_cons_zero, List.getElem_cons_succ, List.setIfInBounds_toArray, List.set_cons_zero, List.set_cons_succ])
      refine wpAnyH_take (i := 7) (v := .bool false) rfl (by kernel_rfl) (by kernel_rfl) (by kernel_rfl) (fun _ _ _ h => h) (Or.inl ⟨by rfl, ?_⟩) hHeld ?_
      · (intro w hSw; (try dsimp only at hSw); go_simp; (try simp))
      (try simp only [Act.put, List.getElem_toArray, List.getElem_cons_zero, List.getElem_cons_succ, List.setIfInBounds_toArray, List.set_cons_zero, List.set_cons_succ])
      refine wpAnyH_done (by kernel_rfl) ?_ _
      have hB' := hB.trans (hHeld.1.mono hB.size)
      have hK1 := hHeld.1
      clear hHeld
      generalize wr.drew = W1 at hB' hK1 ⊢
      have r9 := hrow.below hK1
      have d3' := r9.cell (o := p * 5 + 3) (by omega)
      have d4' := r9.cell (o := p * 5 + 4) (by omega)
      rw [smc_int k _ (by omega), show k + ((p * 5 + 3 : Nat) : Int) = x + 1 + 1 + 1 by have q := hx.out; omega] at d3'
      rw [smc_int k _ (by omega), show k + ((p * 5 + 4 : Nat) : Int) = x + 1 + 1 + 1 + 1 by have q := hx.out; omega] at d4'
      have hgl9 := r9.lt
      clear d0 d1 d2 d3 d4 hK1 r9
      go_wp2_with fail
      exact ⟨⟨p + 1, x + 1 + 1 + 1 + 1 + 1, by omega, by go_num, (by have q := hx.out; omega : x + 1 + 1 + 1 + 1 + 1 = k + 5 * ((p + 1 : Nat) : Int)), by omega, by omega, rfl, hB'⟩, by simp [intOf]; omega⟩
    · have hpn : p = n := by omega
      have HX : Hid (x = k + 5 * (n : Int)) := (by rw [← hpn]; exact hx.out : x = k + 5 * (n : Int))
      clear hpn
      go_wp2_with fail
      go_ret
      exact ⟨by rw [HX.out]; rfl, hB⟩
end Go.Proofs.Ytnchbndgdkhldaa
