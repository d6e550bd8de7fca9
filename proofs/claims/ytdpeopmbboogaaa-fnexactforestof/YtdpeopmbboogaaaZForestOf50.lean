/-
  The laws' eqNodeS, markNodeS, heldNodeS at lists of nodes of one's own, or none.
-/
import Derived.Test.YtdpeopmbboogaaaZForestOf45
import Derived.Test.YtdpeopmbboogaaaZForestOf49
namespace Go.Proofs.Ytdpeopmbboogaaa
open Go.ChangeShapes Go.WideShapes Go.ChangeAt Go.RowKit
set_option linter.unusedSimpArgs false
set_option linter.unusedVariables false

def nmk (k : Int) (o : Nat) : Value := if o % 6 = 2 then .string (M1.mtext (k + o)) else .int .i64 (k + o)
theorem nmk_int (k : Int) (o : Nat) (h : ¬ o % 6 = 2) : nmk k o = .int .i64 (k + o) := if_neg h
theorem nmk_str (k : Int) (o : Nat) (h : o % 6 = 2) : nmk k o = .string (M1.mtext (k + o)) := if_pos h
theorem MN.offP {w w' : World} {av : Option Addr} {n cap lo hi g : Nat} {f : Nat → Value} (h : MN w av n cap lo hi f) (hg : Gr g w w') (hb : g < lo ∨ hi ≤ g) : MN w' av n cap lo hi f :=
  ⟨h.1, h.2.1, h.2.2.imp id fun ⟨k, e, h1, h2, r⟩ => ⟨k, e, h1, h2, r.gr hg (by omega)⟩⟩
theorem MN.mkP {w w' : World} {av bv : Option Addr} {n cap lo hi m cm lo2 hi2 : Nat} {f f2 : Nat → Value} (h : MN w av n cap lo hi f) (h2 : MN w bv m cm lo2 hi2 f2) (hm : MkP bv w w') (hd : hi ≤ lo2 ∨ hi2 ≤ lo) : MN w' av n cap lo hi f := by
  refine ⟨h.1, h.2.1, ?_⟩
  rcases h.2.2 with h0 | ⟨g, e, h3, h4, r⟩
  · exact Or.inl h0
  · refine Or.inr ⟨g, e, h3, h4, ?_⟩
    rcases h2.2.2 with ⟨_, h0⟩ | ⟨g2, e2, h5, h6, _⟩
    · exact r.below (hm.1 h0)
    · exact r.gr (hm.2 g2 e2) (by omega)
theorem MN.mkBelowP {w w' : World} {bv : Option Addr} {m cm lo2 hi2 B : Nat} {f2 : Nat → Value} (h2 : MN w bv m cm lo2 hi2 f2) (hm : MkP bv w w') (hB : B ≤ w.heap.size) (hlo : B ≤ lo2) : Below B w w' := by
  rcases h2.2.2 with ⟨_, h0⟩ | ⟨g2, e2, h5, h6, _⟩
  · exact (hm.1 h0).mono hB
  · exact gr_to (hm.2 g2 e2) hB (by omega)

set_option maxHeartbeats 2000000 in
set_option maxRecDepth 100000 in
theorem eqNode_self (a b c d e : Int) (s : ByteArray) (w : World) :
    Calls Try.prog 49 #[.agg #[.int .i64 a, .int .i64 b, .string s, .int .i64 c, .int .i64 d, .int .i64 e], .agg #[.int .i64 a, .int .i64 b, .string s, .int .i64 c, .int .i64 d, .int .i64 e]] w fun e w' => e = .returned (.bool true) ∧ Below w.heap.size w w' := by
  go_enter Try.func49, Try.ntmps49
  go_wp2_with fail
  refine (eqSpan_self _ _ _ _ _ _).mono ?_
  rintro e w1 ⟨rfl, hb1⟩
  have hB1 := hb1
  clear hb1
  obtain ⟨hc1, hf1⟩ := bcell hB1
  have hz1 := hB1.size
  (try simp [Nat.succ_le_iff] at hz1)
  have hz1_0 : w.heap.size < w1.heap.size := by omega
  have hz1_1 : w.heap.size + 1 < w1.heap.size := by omega
  go_wp2_with fail
  go_ret
  refine ⟨rfl, ?_⟩
  repeat (first | (with_reducible exact Below.refl _ _) | ((with_reducible refine Below.setCell ?_ ?_ _); rotate_left; (focus (first | omega | (simp; done) | (simp; omega)))) | ((with_reducible refine Below.alloc ?_ ?_ _); rotate_left; (focus (first | omega | (simp; done) | (simp; omega)))) | (with_reducible refine Below.drew ?_) | ((with_reducible refine Below.trans ?_ (Below.mono hB1 ?_)); rotate_left; (focus (first | omega | (simp; done) | (simp; omega)))))

set_option maxHeartbeats 8000000 in
set_option maxRecDepth 100000 in
theorem eqNd_some (g g2 n cap cap2 : Nat) (us : List (M1.Upd × Int)) (w : World) (h : RowAt w g (n * 6) (ncell us)) (h2 : RowAt w g2 (n * 6) (ncell us)) (hc : n ≤ cap) (hm : cap ≤ maxLen) (hc2 : n ≤ cap2) (hm2 : cap2 ≤ maxLen) :
    Calls Try.prog 20 #[.slice (some ⟨g, 0, none⟩) n cap, .slice (some ⟨g2, 0, none⟩) n cap2] w fun e w' => e = .returned (.bool true) ∧ Below w.heap.size w w' := by
  unfold maxLen at hm hm2
  have hnb : ((n : Int) != (n : Int)) = false := by simp
  go_enter Try.func20, Try.ntmps20
  go_wp2_with fail
  go_loopw [5] (fun i wr => ∃ p : Nat, p ≤ n ∧ i = .int .i64 p ∧ Below w.heap.size w wr) (fun i _ => n - (intOf i).toNat)
  case atStart => exact ⟨0, Nat.zero_le _, rfl, Below.refl _ _⟩
  case round =>
    obtain ⟨p, hp, rfl, hB⟩ := hrel
    by_cases hlt : p < n
    · have r1 := h.below hB
      have r2 := h2.below hB
      have hgl := r1.lt
      have hgl2 := r2.lt
      have i0 : (0 : Int) ≤ (p : Int) := by omega
      have i1 : (p : Int) < (n : Int) := by omega
      have z0 : ncell us (p * 6) = .int .i64 (nd us p).1.id := ncell_at us p 0 (by omega)
      have z1 : ncell us (p * 6 + 1) = .int .i64 (nd us p).1.pa := ncell_at us p 1 (by omega)
      have z2 : ncell us (p * 6 + 2) = .string (nd us p).1.s := ncell_at us p 2 (by omega)
      have z3 : ncell us (p * 6 + 3) = .int .i64 (nd us p).1.st := ncell_at us p 3 (by omega)
      have z4 : ncell us (p * 6 + 4) = .int .i64 (nd us p).1.en := ncell_at us p 4 (by omega)
      have z5 : ncell us (p * 6 + 5) = .int .i64 (nd us p).2 := ncell_at us p 5 (by omega)
      have d0 := r1.cell (o := p * 6) (by omega)
      have d1 := r1.cell (o := p * 6 + 1) (by omega)
      have d2 := r1.cell (o := p * 6 + 2) (by omega)
      have d3 := r1.cell (o := p * 6 + 3) (by omega)
      have d4 := r1.cell (o := p * 6 + 4) (by omega)
      have d5 := r1.cell (o := p * 6 + 5) (by omega)
      have c0 := r2.cell (o := p * 6) (by omega)
      have c1 := r2.cell (o := p * 6 + 1) (by omega)
      have c2 := r2.cell (o := p * 6 + 2) (by omega)
      have c3 := r2.cell (o := p * 6 + 3) (by omega)
      have c4 := r2.cell (o := p * 6 + 4) (by omega)
      have c5 := r2.cell (o := p * 6 + 5) (by omega)
      rw [z0] at d0 c0
      rw [z1] at d1 c1
      rw [z2] at d2 c2
      rw [z3] at d3 c3
      rw [z4] at d4 c4
      rw [z5] at d5 c5
      clear z0 z1 z2 z3 z4 z5
      go_wp2_with fail
      refine wp_region_held_drew (S := fun w' => Kp wr w') (by kernel_rfl) ?_ (fun hHeld => ?_)
      · exact kp_zero _
      refine wpAnyH_take (i := 0) (v := ?_) rfl (by kernel_rfl) (by kernel_rfl) (by kernel_rfl) (fun _ _ _ h => h) (Or.inl ⟨by rfl, ?_⟩) hHeld ?_
      rotate_left
      · (intro w hSw; (try dsimp only at hSw); go_simp; try (with_reducible rfl))
      (try simp only [Act.put, List.getElem_toArray, List.getElem_cons_zero, List.getElem_cons_succ, List.setIfInBounds_toArray, List.set_cons_zero, List.set_cons_succ])
      refine wpAnyH_take (i := 1) (v := ?_) rfl (by kernel_rfl) (by kernel_rfl) (by kernel_rfl) (fun _ _ _ h => h) (Or.inl ⟨by rfl, ?_⟩) hHeld ?_
      rotate_left
      · (intro w hSw; (try dsimp only at hSw); go_simp; try (with_reducible rfl))
      (try simp only [Act.put, List.getElem_toArray, List.getElem_cons_zero, List.getElem_cons_succ, List.setIfInBounds_toArray, List.set_cons_zero, List.set_cons_succ])
      refine wpAnyH_take (i := 2) (v := ?_) rfl (by kernel_rfl) (by kernel_rfl) (by kernel_rfl) (fun _ _ _ h => h) (Or.inl ⟨by rfl, ?_⟩) hHeld ?_
      rotate_left
      · (intro w hSw; (try dsimp only at hSw); go_simp; try (with_reducible rfl))
      (try simp only [Act.put, List.getElem_toArray, List.getElem_cons_zero, List.getElem_cons_succ, List.setIfInBounds_toArray, List.set_cons_zero, List.set_cons_succ])
      refine wpAnyH_take (i := 3) (v := ?_) rfl (by kernel_rfl) (by kernel_rfl) (by kernel_rfl) (fun _ _ _ h => h) (Or.inl ⟨by rfl, ?_⟩) hHeld ?_
      rotate_left
      · (intro w hSw; (try dsimp only at hSw); go_simp; try (with_reducible rfl))
      (try simp only [Act.put, List.getElem_toArray, List.getElem_cons_zero, List.getElem_cons_succ, List.setIfInBounds_toArray, List.set_cons_zero, List.set_cons_succ])
      refine wpAnyH_take (i := 4) (v := ?_) rfl (by kernel_rfl) (by kernel_rfl) (by kernel_rfl) (fun _ _ _ h => h) (Or.inl ⟨by rfl, ?_⟩) hHeld ?_
      rotate_left
      · (intro w hSw; (try dsimp only at hSw); go_simp; try (with_reducible rfl))
      (try simp only [Act.put, List.getElem_toArray, List.getElem_cons_zero, List.getElem_cons_succ, List.setIfInBounds_toArray, List.set_cons_zero, List.set_cons_succ])
      refine wpAnyH_take (i := 5) (v := ?_) rfl (by kernel_rfl) (by kernel_rfl) (by kernel_rfl) (fun _ _ _ h => h) (Or.inl ⟨by rfl, ?_⟩) hHeld ?_
      rotate_left
      · (intro w hSw; (try dsimp only at hSw); go_simp; try (with_reducible rfl))
      (try simp only [Act.put, List.getElem_toArray, List.getElem_cons_zero, List.getElem_cons_succ, List.setIfInBounds_toArray, List.set_cons_zero, List.set_cons_succ])
      refine wpAnyH_take (i := 6) (v := ?_) rfl (by kernel_rfl) (by kernel_rfl) (by kernel_rfl) (fun _ _ _ h => h) (Or.inl ⟨by rfl, ?_⟩) hHeld ?_
      rotate_left
      · (intro w hSw; (try dsimp only at hSw); go_simp; try (with_reducible rfl))
      (try simp only [Act.put, List.getElem_toArray, List.getElem_cons_zero, List.getElem_cons_succ, List.setIfInBounds_toArray, List.set_cons_zero, List.set_cons_succ])
      refine wpAnyH_take (i := 7) (v := ?_) rfl (by kernel_rfl) (by kernel_rfl) (by kernel_rfl) (fun _ _ _ h => h) (Or.inl ⟨by rfl, ?_⟩) hHeld ?_
      rotate_left
      · (intro w hSw; (try dsimp only at hSw); go_simp; try (with_reducible rfl))
      (try simp only [Act.put, List.getElem_toArray, List.getElem_cons_zero, List.getElem_cons_succ, List.setIfInBounds_toArray, List.set_cons_zero, List.set_cons_succ])
      refine wpAnyH_ready (rs := [8]) (by kernel_rfl) (by simp) ?_
      refine AllReadyH.cons (o := _) rfl (fun K hK => ?_) AllReadyH.nil
      go_simp
      (refine (eqNode_self _ _ _ _ _ _ _).mono ?_; rintro e w8 ⟨rfl, hb8⟩; go_wp2_with fail)
      refine hK.out _ _ ?_ (fun hHeld2 => ?_)
      · exact kp_step hHeld hb8
      clear hK K hHeld
      have hHeld := hHeld2
      clear hHeld2
      (try simp only [Act.put, List.getElem_toArray, List.getElem_cons_zero, List.getElem_cons_succ, List.setIfInBounds_toArray, List.set_cons_zero, List.set_cons_succ])
      refine wpAnyH_take (i := 9) (v := ?_) rfl (by kernel_rfl) (by kernel_rfl) (by kernel_rfl) (fun _ _ _ h => h) (Or.inl ⟨by rfl, ?_⟩) hHeld ?_
      rotate_left
      · (intro w hSw; (try dsimp only at hSw); go_simp; try (with_reducible rfl))
      (try simp only [Act.put, List.getElem_toArray, List.getElem_cons_zero, List.getElem_cons_succ, List.setIfInBounds_toArray, List.set_cons_zero, List.set_cons_succ])
      refine wpAnyH_done (by kernel_rfl) ?_ _
      have hB' := hB.trans (hHeld.1.mono hB.size)
      clear hHeld
      go_wp2_with fail
      exact ⟨⟨p + 1, by omega, by go_num, hB'⟩, by simp [intOf]; omega⟩
    · go_wp2_with fail
      go_ret
      exact ⟨rfl, hB⟩

set_option maxHeartbeats 8000000 in
set_option maxRecDepth 100000 in
theorem markNd_some (g n cap : Nat) (f : Nat → Value) (k : Int) (w : World) (h : RowAt w g (n * 6) f) (hc : n ≤ cap) (hm : cap ≤ maxLen) (hn : n ≤ 1048576) (hk : 0 ≤ k) (hk2 : k ≤ 100000000) :
    Calls Try.prog 23 #[.slice (some ⟨g, 0, none⟩) n cap, .int .i64 k] w fun e w' => e = .returned (.int .i64 (k + 6 * n)) ∧ RowAt w' g (n * 6) (nmk k) ∧ Gr g w w' := by
  unfold maxLen at hm
  go_enter Try.func23, Try.ntmps23
  go_wp2_with fail
  go_loopw [1, 5] (fun q i wr => ∃ (p : Nat) (x : Int), p ≤ n ∧ i = .int .i64 p ∧ Hid (x = k + 6 * p) ∧ 0 ≤ x ∧ x ≤ 200000000 ∧ q = .int .i64 x ∧ Gr g w wr ∧ ∃ f', RowAt wr g (n * 6) f' ∧ Hid (∀ o, o < p * 6 → f' o = nmk k o)) (fun _ i _ => n - (intOf i).toNat)
  case atStart => exact ⟨0, k, Nat.zero_le _, rfl, (by omega : k = k + 6 * ((0 : Nat) : Int)), by omega, by omega, rfl, gr_refl _ _, f, h, fun o ho => absurd ho (by omega)⟩
  case round =>
    obtain ⟨p, x, hp, rfl, hx, hx0, hx1, rfl, hG, f', hrow, hall⟩ := hrel
    have hgl := hrow.lt
    by_cases hlt : p < n
    · have i0 : (0 : Int) ≤ (p : Int) := by omega
      have i1 : (p : Int) < (n : Int) := by omega
      have hxb : x + 6 ≤ 200000000 := by have q := hx.out; omega
      have d0 := hrow.cell (o := p * 6) (by omega)
      have y0 := hrow.free (o := p * 6) (by omega)
      have d1 := hrow.cell (o := p * 6 + 1) (by omega)
      have y1 := hrow.free (o := p * 6 + 1) (by omega)
      go_wp2_with fail
      have r2 := (hrow.set (o := p * 6) (by omega) (.int .i64 x)).set (o := p * 6 + 1) (by omega) (.int .i64 (x + 1))
      have g2 := gr_set (gr_set hG (p * 6) (.int .i64 x)) (p * 6 + 1) (.int .i64 (x + 1))
      refine (markText_any _ _ (by omega) (by omega)).mono ?_
      rintro e w2 ⟨rfl, hb2⟩
      obtain ⟨f2, hf2, r3⟩ : ∃ f2, f2 = _ ∧ RowAt w2 g (n * 6) f2 := ⟨_, rfl, r2.below hb2⟩
      have G3 := gr_trans g2 (gr_below hb2)
      clear r2 g2 hb2 d0 y0 d1 y1
      have d2 := r3.cell (o := p * 6 + 2) (by omega)
      have y2 := r3.free (o := p * 6 + 2) (by omega)
      have d3 := r3.cell (o := p * 6 + 3) (by omega)
      have y3 := r3.free (o := p * 6 + 3) (by omega)
      have d4 := r3.cell (o := p * 6 + 4) (by omega)
      have d5 := r3.cell (o := p * 6 + 5) (by omega)
      have y4 := r3.free (o := p * 6 + 4) (by omega)
      have y5 := r3.free (o := p * 6 + 5) (by omega)
      have hgl2 := r3.lt
      go_wp2_with fail
      have r6 := (((r3.set (o := p * 6 + 2) (by omega) (.string (M1.mtext (x + 1 + 1)))).set (o := p * 6 + 3) (by omega) (.int .i64 (x + 1 + 1 + 1))).set (o := p * 6 + 4) (by omega) (.int .i64 (x + 1 + 1 + 1 + 1))).set (o := p * 6 + 5) (by omega) (.int .i64 (x + 1 + 1 + 1 + 1 + 1))
      have g6 := gr_set (gr_set (gr_set (gr_set G3 (p * 6 + 2) (.string (M1.mtext (x + 1 + 1)))) (p * 6 + 3) (.int .i64 (x + 1 + 1 + 1))) (p * 6 + 4) (.int .i64 (x + 1 + 1 + 1 + 1))) (p * 6 + 5) (.int .i64 (x + 1 + 1 + 1 + 1 + 1))
      refine ⟨⟨p + 1, x + 1 + 1 + 1 + 1 + 1 + 1, by omega, by go_num, (by have q := hx.out; omega : x + 1 + 1 + 1 + 1 + 1 + 1 = k + 6 * ((p + 1 : Nat) : Int)), by omega, by omega, rfl, g6, _, r6, fun o ho => ?_⟩, by simp [intOf]; omega⟩
      subst hf2
      have q := hx.out
      show (if o = p * 6 + 5 then _ else if o = p * 6 + 4 then _ else if o = p * 6 + 3 then _ else if o = p * 6 + 2 then _ else if o = p * 6 + 1 then _ else if o = p * 6 then _ else f' o) = _
      by_cases e5 : o = p * 6 + 5
      · rw [if_pos e5, nmk_int k o (by omega)]; exact congrArg (fun z => Value.int .i64 z) (by omega)
      rw [if_neg e5]
      by_cases e4 : o = p * 6 + 4
      · rw [if_pos e4, nmk_int k o (by omega)]; exact congrArg (fun z => Value.int .i64 z) (by omega)
      rw [if_neg e4]
      by_cases e3 : o = p * 6 + 3
      · rw [if_pos e3, nmk_int k o (by omega)]; exact congrArg (fun z => Value.int .i64 z) (by omega)
      rw [if_neg e3]
      by_cases e2 : o = p * 6 + 2
      · rw [if_pos e2, nmk_str k o (by omega)]; exact congrArg (fun z => Value.string (M1.mtext z)) (by omega)
      rw [if_neg e2]
      by_cases e1 : o = p * 6 + 1
      · rw [if_pos e1, nmk_int k o (by omega)]; exact congrArg (fun z => Value.int .i64 z) (by omega)
      rw [if_neg e1]
      by_cases e0 : o = p * 6
      · rw [if_pos e0, nmk_int k o (by omega)]; exact congrArg (fun z => Value.int .i64 z) (by omega)
      rw [if_neg e0]
      exact hall.out o (by omega)
    · have hpn : p = n := by omega
      have hrow' := hrow.same fun o ho => hall.out o (by rw [hpn]; exact ho)
      have HX : Hid (x = k + 6 * (n : Int)) := (by rw [← hpn]; exact hx.out : x = k + 6 * (n : Int))
      clear hpn
      go_wp2_with fail
      go_ret
      exact ⟨by rw [HX.out]; rfl, hrow', hG⟩

set_option maxHeartbeats 8000000 in
set_option maxRecDepth 100000 in
theorem heldNd_some (g n cap : Nat) (k : Int) (w : World) (h : RowAt w g (n * 6) (nmk k)) (hc : n ≤ cap) (hm : cap ≤ maxLen) (hn : n ≤ 1048576) (hk : 0 ≤ k) (hk2 : k ≤ 100000000) :
    Calls Try.prog 24 #[.slice (some ⟨g, 0, none⟩) n cap, .int .i64 k] w fun e w' => e = .returned (.int .i64 (k + 6 * n)) ∧ Below w.heap.size w w' := by
  unfold maxLen at hm
  go_enter Try.func24, Try.ntmps24
  go_wp2_with fail
  go_loopw [1, 5] (fun q i wr => ∃ (p : Nat) (x : Int), p ≤ n ∧ i = .int .i64 p ∧ Hid (x = k + 6 * p) ∧ 0 ≤ x ∧ x ≤ 200000000 ∧ q = .int .i64 x ∧ Below w.heap.size w wr) (fun _ i _ => n - (intOf i).toNat)
  case atStart => exact ⟨0, k, Nat.zero_le _, rfl, (by omega : k = k + 6 * ((0 : Nat) : Int)), by omega, by omega, rfl, Below.refl _ _⟩
  case round =>
    obtain ⟨p, x, hp, rfl, hx, hx0, hx1, rfl, hB⟩ := hrel
    have hrow := h.below hB
    have hgl := hrow.lt
    by_cases hlt : p < n
    · have i0 : (0 : Int) ≤ (p : Int) := by omega
      have i1 : (p : Int) < (n : Int) := by omega
      have hxb : x + 6 ≤ 200000000 := by have q := hx.out; omega
      have d0 := hrow.cell (o := p * 6) (by omega)
      have d1 := hrow.cell (o := p * 6 + 1) (by omega)
      have d2 := hrow.cell (o := p * 6 + 2) (by omega)
      have d3 := hrow.cell (o := p * 6 + 3) (by omega)
      have d4 := hrow.cell (o := p * 6 + 4) (by omega)
      have d5 := hrow.cell (o := p * 6 + 5) (by omega)
      have q := hx.out
      rw [nmk_int k _ (by omega), show k + ((p * 6 : Nat) : Int) = x by omega] at d0
      rw [nmk_int k _ (by omega), show k + ((p * 6 + 1 : Nat) : Int) = x + 1 by omega] at d1
      rw [nmk_str k _ (by omega), show k + ((p * 6 + 2 : Nat) : Int) = x + 1 + 1 by omega] at d2
      rw [nmk_int k _ (by omega), show k + ((p * 6 + 3 : Nat) : Int) = x + 1 + 1 + 1 by omega] at d3
      rw [nmk_int k _ (by omega), show k + ((p * 6 + 4 : Nat) : Int) = x + 1 + 1 + 1 + 1 by omega] at d4
      rw [nmk_int k _ (by omega), show k + ((p * 6 + 5 : Nat) : Int) = x + 1 + 1 + 1 + 1 + 1 by omega] at d5
      clear q
      go_wp2_with fail
      refine wp_region_held_drew (S := fun w' => Kp wr w') (by kernel_rfl) ?_ (fun hHeld => ?_)
      · exact kp_zero _
      refine wpAnyH_take (i := 0) (v := ?_) rfl (by kernel_rfl) (by kernel_rfl) (by kernel_rfl) (fun _ _ _ h => h) (Or.inl ⟨by rfl, ?_⟩) hHeld ?_
      rotate_left
      · (intro w hSw; (try dsimp only at hSw); go_simp; try (with_reducible rfl))
      (try simp only [Act.put, List.getElem_toArray, List.getElem_cons_zero, List.getElem_cons_succ, List.setIfInBounds_toArray, List.set_cons_zero, List.set_cons_succ])
      refine wpAnyH_take (i := 1) (v := ?_) rfl (by kernel_rfl) (by kernel_rfl) (by kernel_rfl) (fun _ _ _ h => h) (Or.inl ⟨by rfl, ?_⟩) hHeld ?_
      rotate_left
      · (intro w hSw; (try dsimp only at hSw); go_simp; try (with_reducible rfl))
      (try simp only [Act.put, List.getElem_toArray, List.getElem_cons_zero, List.getElem_cons_succ, List.setIfInBounds_toArray, List.set_cons_zero, List.set_cons_succ])
      refine wpAnyH_take (i := 2) (v := ?_) rfl (by kernel_rfl) (by kernel_rfl) (by kernel_rfl) (fun _ _ _ h => h) (Or.inl ⟨by rfl, ?_⟩) hHeld ?_
      rotate_left
      · (intro w hSw; (try dsimp only at hSw); go_simp; try (with_reducible rfl))
      (try simp only [Act.put, List.getElem_toArray, List.getElem_cons_zero, List.getElem_cons_succ, List.setIfInBounds_toArray, List.set_cons_zero, List.set_cons_succ])
      refine wpAnyH_take (i := 3) (v := ?_) rfl (by kernel_rfl) (by kernel_rfl) (by kernel_rfl) (fun _ _ _ h => h) (Or.inl ⟨by rfl, ?_⟩) hHeld ?_
      rotate_left
      · (intro w hSw; (try dsimp only at hSw); go_simp; try (with_reducible rfl))
      (try simp only [Act.put, List.getElem_toArray, List.getElem_cons_zero, List.getElem_cons_succ, List.setIfInBounds_toArray, List.set_cons_zero, List.set_cons_succ])
      refine wpAnyH_take (i := 4) (v := ?_) rfl (by kernel_rfl) (by kernel_rfl) (by kernel_rfl) (fun _ _ _ h => h) (Or.inl ⟨by rfl, ?_⟩) hHeld ?_
      rotate_left
      · (intro w hSw; (try dsimp only at hSw); go_simp; try (with_reducible rfl))
      (try simp only [Act.put, List.getElem_toArray, List.getElem_cons_zero, List.getElem_cons_succ, List.setIfInBounds_toArray, List.set_cons_zero, List.set_cons_succ])
      refine wpAnyH_take (i := 5) (v := ?_) rfl (by kernel_rfl) (by kernel_rfl) (by kernel_rfl) (fun _ _ _ h => h) (Or.inl ⟨by rfl, ?_⟩) hHeld ?_
      rotate_left
      · (intro w hSw; (try dsimp only at hSw); go_simp; try (with_reducible rfl))
      (try simp only [Act.put, List.getElem_toArray, List.getElem_cons_zero, List.getElem_cons_succ, List.setIfInBounds_toArray, List.set_cons_zero, List.set_cons_succ])
      refine wpAnyH_take (i := 6) (v := ?_) rfl (by kernel_rfl) (by kernel_rfl) (by kernel_rfl) (fun _ _ _ h => h) (Or.inl ⟨by rfl, ?_⟩) hHeld ?_
      rotate_left
      · (intro w hSw; (try dsimp only at hSw); go_simp; try (with_reducible rfl))
      (try simp only [Act.put, List.getElem_toArray, List.getElem_cons_zero, List.getElem_cons_succ, List.setIfInBounds_toArray, List.set_cons_zero, List.set_cons_succ])
      refine wpAnyH_ready (rs := [7]) (by kernel_rfl) (by simp) ?_
      refine AllReadyH.cons (o := _) rfl (fun K hK => ?_) AllReadyH.nil
      go_simp
      (refine (markText_any _ _ (by omega) (by omega)).mono ?_; rintro e w8 ⟨rfl, hb8⟩; go_wp2_with fail)
      refine hK.out _ _ ?_ (fun hHeld2 => ?_)
      · exact kp_step hHeld hb8
      clear hK K hHeld
      have hHeld := hHeld2
      clear hHeld2
      (try simp only [Act.put, List.getElem_toArray, List.getElem_cons_zero, List.getElem_cons_succ, List.setIfInBounds_toArray, List.set_cons_zero, List.set_cons_succ])
      refine wpAnyH_take (i := 8) (v := .bool false) rfl (by kernel_rfl) (by kernel_rfl) (by kernel_rfl) (fun _ _ _ h => h) (Or.inl ⟨by rfl, ?_⟩) hHeld ?_
      · (intro w hSw; (try dsimp only at hSw); go_simp; (try simp))
      (try simp only [Act.put, List.getElem_toArray, List.getElem_cons_zero, List.getElem_cons_succ, List.setIfInBounds_toArray, List.set_cons_zero, List.set_cons_succ])
      refine wpAnyH_done (by kernel_rfl) ?_ _
      have hB' := hB.trans (hHeld.1.mono hB.size)
      have hK1 := hHeld.1
      clear hHeld
      generalize wr.drew = W1 at hB' hK1 ⊢
      have r9 := hrow.below hK1
      have d3' := r9.cell (o := p * 6 + 3) (by omega)
      have d4' := r9.cell (o := p * 6 + 4) (by omega)
      have d5' := r9.cell (o := p * 6 + 5) (by omega)
      rw [nmk_int k _ (by omega), show k + ((p * 6 + 3 : Nat) : Int) = x + 1 + 1 + 1 by have q := hx.out; omega] at d3'
      rw [nmk_int k _ (by omega), show k + ((p * 6 + 4 : Nat) : Int) = x + 1 + 1 + 1 + 1 by have q := hx.out; omega] at d4'
      rw [nmk_int k _ (by omega), show k + ((p * 6 + 5 : Nat) : Int) = x + 1 + 1 + 1 + 1 + 1 by have q := hx.out; omega] at d5'
      have hgl9 := r9.lt
      clear d0 d1 d2 d3 d4 d5 hK1 r9
      go_wp2_with fail
      exact ⟨⟨p + 1, x + 1 + 1 + 1 + 1 + 1 + 1, by omega, by go_num, (by have q := hx.out; omega : x + 1 + 1 + 1 + 1 + 1 + 1 = k + 6 * ((p + 1 : Nat) : Int)), by omega, by omega, rfl, hB'⟩, by simp [intOf]; omega⟩
    · have hpn : p = n := by omega
      have HX : Hid (x = k + 6 * (n : Int)) := (by rw [← hpn]; exact hx.out : x = k + 6 * (n : Int))
      clear hpn
      go_wp2_with fail
      go_ret
      exact ⟨by rw [HX.out]; rfl, hB⟩

set_option maxHeartbeats 2000000 in
theorem eqNd_zero (a b : Option Addr) (c d : Nat) (w : World) :
    Calls Try.prog 20 #[.slice a 0 c, .slice b 0 d] w fun e w' => e = .returned (.bool true) ∧ Below w.heap.size w w' := by
  go_enter Try.func20, Try.ntmps20
  go_wp2_with fail
  go_loopw [5] (fun i wr => i = .int .i64 0 ∧ Below w.heap.size w wr) (fun i _ => 0)
  case atStart => exact ⟨rfl, Below.refl _ _⟩
  case round =>
    obtain ⟨rfl, hB⟩ := hrel
    go_wp2_with fail
    go_ret
    exact ⟨rfl, hB⟩

theorem eqNd_same (av bv : Option Addr) (n c d lo hi lo2 hi2 : Nat) (us : List (M1.Upd × Int)) (w : World) (h1 : MN w av n c lo hi (ncell us)) (h2 : MN w bv n d lo2 hi2 (ncell us)) :
    Calls Try.prog 20 #[.slice av n c, .slice bv n d] w fun e w' => e = .returned (.bool true) ∧ Below w.heap.size w w' := by
  rcases h1.2.2 with ⟨h0, _⟩ | ⟨g, rfl, _, _, r⟩
  · subst h0; exact eqNd_zero _ _ _ _ _
  rcases h2.2.2 with ⟨h0, _⟩ | ⟨g2, rfl, _, _, r2⟩
  · subst h0; exact eqNd_zero _ _ _ _ _
  exact eqNd_some _ _ _ _ _ _ _ r r2 h1.1 h1.2.1 h2.1 h2.2.1

set_option maxHeartbeats 2000000 in
theorem markNd_any (av : Option Addr) (n cap lo hi : Nat) (f : Nat → Value) (k : Int) (w : World) (h : MN w av n cap lo hi f) (hn : n ≤ 1048576) (hk : 0 ≤ k) (hk2 : k ≤ 100000000) :
    Calls Try.prog 23 #[.slice av n cap, .int .i64 k] w fun e w' => e = .returned (.int .i64 (k + 6 * n)) ∧ MN w' av n cap lo hi (nmk k) ∧ MkP av w w' := by
  obtain ⟨h1, h2, h3⟩ := h
  rcases h3 with ⟨rfl, rfl⟩ | ⟨g, rfl, hlo, hhi, hr⟩
  · go_enter Try.func23, Try.ntmps23
    go_wp2_with fail
    go_loopw [1, 5] (fun q i wr => q = .int .i64 k ∧ i = .int .i64 0 ∧ Below w.heap.size w wr) (fun _ i _ => 0)
    case atStart => exact ⟨rfl, rfl, Below.refl _ _⟩
    case round =>
      obtain ⟨rfl, rfl, hB⟩ := hrel
      go_wp2_with fail
      go_ret
      exact ⟨by simp, ⟨h1, h2, Or.inl ⟨rfl, rfl⟩⟩, mkP_none hB⟩
  · refine (markNd_some _ _ _ _ _ _ hr h1 h2 hn hk hk2).mono ?_
    rintro e w2 ⟨rfl, r2, hG⟩
    exact ⟨rfl, ⟨h1, h2, Or.inr ⟨g, rfl, hlo, hhi, r2⟩⟩, mkP_some hG⟩

set_option maxHeartbeats 2000000 in
theorem heldNd_any (av : Option Addr) (n cap lo hi : Nat) (k : Int) (w : World) (h : MN w av n cap lo hi (nmk k)) (hn : n ≤ 1048576) (hk : 0 ≤ k) (hk2 : k ≤ 100000000) :
    Calls Try.prog 24 #[.slice av n cap, .int .i64 k] w fun e w' => e = .returned (.int .i64 (k + 6 * n)) ∧ Below w.heap.size w w' := by
  obtain ⟨h1, h2, h3⟩ := h
  rcases h3 with ⟨rfl, rfl⟩ | ⟨g, rfl, hlo, hhi, hr⟩
  · go_enter Try.func24, Try.ntmps24
    go_wp2_with fail
    go_loopw [1, 5] (fun q i wr => q = .int .i64 k ∧ i = .int .i64 0 ∧ Below w.heap.size w wr) (fun _ i _ => 0)
    case atStart => exact ⟨rfl, rfl, Below.refl _ _⟩
    case round =>
      obtain ⟨rfl, rfl, hB⟩ := hrel
      go_wp2_with fail
      go_ret
      exact ⟨by simp, hB⟩
  · exact heldNd_some _ _ _ _ _ hr h1 h2 hn hk hk2
end Go.Proofs.Ytdpeopmbboogaaa
