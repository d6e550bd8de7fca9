/-
  Contracts at a new world: WorldOk of the program, the laws' union and sameWorld.
-/
import Derived.Test.YtpookiebkiigcaaZWorldNew48
namespace Go.Proofs.Ytpookiebkiigcaa
open Go.ChangeShapes Go.WideShapes Go.ChangeAt Go.RowKit
set_option linter.unusedSimpArgs false
set_option linter.unusedVariables false

set_option maxHeartbeats 4000000 in
set_option maxRecDepth 100000 in
theorem worldOk_new (av : Option Addr) (n c lo hi : Nat) (w : World) (h : MG w av n c lo hi rcell) (h2 : 2 ≤ n) (hn : n ≤ 5) :
    Calls Try.prog 13 #[.agg #[.int .i64 0, .slice av n c, .slice none 0 0]] w fun e w' => e = .returned (.bool true) ∧ Below w.heap.size w w' := by
  have hm1 := h.1
  have hm2 := h.2.1
  unfold maxLen at hm2
  have q1 : M1.inB (n : Int) 2 5 = true := by unfold M1.inB; simp; omega
  go_enter Try.func13, Try.ntmps13
  go_wp2_with fail
  obtain ⟨W1, hW1⟩ : ∃ W, W = (w.alloc (.cells #[.int .i64 0, .slice av n c, .slice none 0 0] 28)) := ⟨_, rfl⟩
  have bb1 : Below w.heap.size w W1 := by rw [hW1]; exact (Below.refl _ _).alloc (Nat.le_refl _) _
  have hz1 : W1.heap.size = w.heap.size + 1 := by rw [hW1]; simp
  have rw1 : RowAt W1 w.heap.size 3 (fun o => (#[.int .i64 0, .slice av n c, .slice none 0 0] : Array Value).getD o undef) := by rw [hW1]; exact RowAt.new w _ _
  rw [← hW1]
  clear hW1
  have g1 := h.below bb1
  have c0 := rw1.cell (o := 0) (by omega)
  have c1 := rw1.cell (o := 1) (by omega)
  have c2 := rw1.cell (o := 2) (by omega)
  simp at c0 c1 c2
  have cl := rw1.lt
  refine (timeOk_any _ _).mono ?_
  rintro e w2 ⟨rfl, hb2⟩
  subst hb2
  have ht : M1.inB 0 0 1000000000 = true := by decide
  first | rw [ht] | skip
  go_wp2_with fail
  refine (inRange_any _ _ _ _).mono ?_
  rw [q1]
  rintro e w3 ⟨rfl, hb3⟩
  subst hb3
  go_wp2_with fail
  refine (allOf_new _ _ _ _ _ _ g1 hn).mono ?_
  rintro e w4 ⟨⟨b, rfl⟩, hb4⟩
  have B4 := bb1.trans (hb4.mono bb1.size)
  have r4 := rw1.below hb4
  clear c0 c1 c2 cl rw1 g1 hb4 bb1
  have c0 := r4.cell (o := 0) (by omega)
  have c1 := r4.cell (o := 1) (by omega)
  have c2 := r4.cell (o := 2) (by omega)
  simp at c0 c1 c2
  have cl := r4.lt
  go_wp2_with fail
  go_loopw [37] (fun i wr => i = .int .i64 0 ∧ Below w4.heap.size w4 wr) (fun i _ => 0)
  case atStart => exact ⟨rfl, Below.refl _ _⟩
  case round =>
    obtain ⟨rfl, hB2⟩ := hrel
    go_wp2_with fail
    go_ret
    exact ⟨rfl, B4.trans (hB2.mono B4.size)⟩

set_option maxHeartbeats 4000000 in
set_option maxRecDepth 100000 in
theorem union_new (av : Option Addr) (n c lo hi : Nat) (w : World) (h : MG w av n c lo hi rcell) (hn : n ≤ 5) :
    Calls Try.prog 14 #[.agg #[.int .i64 0, .slice av n c, .slice none 0 0]] w fun e w' => (∃ a k, e = .returned (.slice a 0 k) ∧ k ≤ maxLen) ∧ Below w.heap.size w w' := by
  have hm1 := h.1
  have hm2 := h.2.1
  unfold maxLen at hm2
  go_enter Try.func14, Try.ntmps14
  go_wp2_with fail
  obtain ⟨W1, hW1⟩ : ∃ W, W = (w.alloc (.cells #[.int .i64 0, .slice av n c, .slice none 0 0] 28)).alloc (.cells #[] 87) := ⟨_, rfl⟩
  have B1 : Below w.heap.size w W1 := by rw [hW1]; exact ((Below.refl _ _).alloc (Nat.le_refl _) _).alloc (by simp) _
  have r1 : RowAt W1 w.heap.size 3 (fun o => (#[Value.int .i64 0, .slice av n c, .slice none 0 0] : Array Value).getD o undef) := by rw [hW1]; exact (RowAt.new w _ _).alloc _
  have hz1 : w.heap.size + 1 < W1.heap.size := by rw [hW1]; simp
  rw [← hW1]
  clear hW1
  go_loopw [3, 4] (fun v i wr => ∃ (p : Nat) (a : Option Addr) (k : Nat), p ≤ n ∧ i = .int .i64 p ∧ v = .slice a 0 k ∧ IsUpds wr a 0 k [] ∧ Below W1.heap.size W1 wr) (fun _ i _ => n - (intOf i).toNat)
  case atStart => exact ⟨0, _, 0, Nat.zero_le _, rfl, rfl, ⟨rfl, Nat.le_refl _, Nat.zero_le _, fun _ hi => absurd hi (Nat.not_lt_zero _), Or.inl rfl⟩, Below.refl _ _⟩
  case round =>
    obtain ⟨p, a, k, hp, rfl, rfl, hu, hB⟩ := hrel
    have BB := B1.trans (hB.mono B1.size)
    have g1 := h.below BB
    have rr := r1.below hB
    have c0 := rr.cell (o := 0) (by omega)
    have c1 := rr.cell (o := 1) (by omega)
    have c2 := rr.cell (o := 2) (by omega)
    simp at c0 c1 c2
    have cl := rr.lt
    by_cases hlt : p < n
    · rcases g1.2.2 with ⟨h0, _⟩ | ⟨g, rfl, _, _, rg⟩
      · omega
      have hgl := rg.lt
      have i0 : (0 : Int) ≤ (p : Int) := by omega
      have i1 : (p : Int) < (n : Int) := by omega
      have d4 := rg.cell (o := p * 5 + 4) (by omega)
      rw [rcell4] at d4
      clear g1
      go_wp2_with fail
      refine (joined_none _ _ _ _ _ hu (noUpds _)).mono ?_
      rintro e w4 ⟨a4, k4, rfl, u4, hb4⟩
      have B4 := hB.trans (hb4.mono hB.size)
      clear c0 c1 c2 cl rr d4 rg
      go_wp2_with fail
      exact ⟨⟨p + 1, a4, k4, by omega, by go_num, rfl, u4, B4⟩, by simp [intOf]; omega⟩
    · have hk1 := hu.hmost
      go_wp2_with fail
      go_ret
      exact ⟨⟨a, k, rfl, hk1⟩, BB⟩

set_option maxHeartbeats 4000000 in
set_option maxRecDepth 100000 in
theorem sameWorld_new (av bv : Option Addr) (n c d lo hi lo2 hi2 : Nat) (w : World) (h : MG w av n c lo hi rcell) (h2 : MG w bv n d lo2 hi2 rcell) :
    Calls Try.prog 12 #[.agg #[.int .i64 0, .slice av n c, .slice none 0 0], .agg #[.int .i64 0, .slice bv n d, .slice none 0 0]] w fun e w' => e = .returned (.bool true) ∧ Below w.heap.size w w' := by
  have hm1 := h.1
  have hm2 := h.2.1
  have hm3 := h2.1
  have hm4 := h2.2.1
  unfold maxLen at hm2 hm4
  have hnb : ((n : Int) != (n : Int)) = false := by simp
  go_enter Try.func12, Try.ntmps12
  go_wp2_with fail
  obtain ⟨W1, hW1⟩ : ∃ W, W = (w.alloc (.cells #[.int .i64 0, .slice av n c, .slice none 0 0] 28)).alloc (.cells #[.int .i64 0, .slice bv n d, .slice none 0 0] 28) := ⟨_, rfl⟩
  have B1 : Below w.heap.size w W1 := by rw [hW1]; exact ((Below.refl _ _).alloc (Nat.le_refl _) _).alloc (by simp) _
  have r1 : RowAt W1 w.heap.size 3 (fun o => (#[Value.int .i64 0, .slice av n c, .slice none 0 0] : Array Value).getD o undef) := by rw [hW1]; exact (RowAt.new w _ _).alloc _
  have r2 : RowAt W1 (w.heap.size + 1) 3 (fun o => (#[Value.int .i64 0, .slice bv n d, .slice none 0 0] : Array Value).getD o undef) := by
    have q := RowAt.new (w.alloc (.cells #[.int .i64 0, .slice av n c, .slice none 0 0] 28)) #[.int .i64 0, .slice bv n d, .slice none 0 0] 28
    have ez : (w.alloc (.cells #[.int .i64 0, .slice av n c, .slice none 0 0] 28)).heap.size = w.heap.size + 1 := by simp
    rw [ez] at q
    rw [hW1]; exact q
  rw [← hW1]
  clear hW1
  go_loopw [5] (fun i wr => ∃ p : Nat, p ≤ n ∧ i = .int .i64 p ∧ Below W1.heap.size W1 wr) (fun i _ => n - (intOf i).toNat)
  case atStart => exact ⟨0, Nat.zero_le _, rfl, Below.refl _ _⟩
  case round =>
    obtain ⟨p, hp, rfl, hB⟩ := hrel
    have BB := B1.trans (hB.mono B1.size)
    have r1' := r1.below hB
    have r2' := r2.below hB
    have c0 := r1'.cell (o := 0) (by omega)
    have c1 := r1'.cell (o := 1) (by omega)
    have c2 := r1'.cell (o := 2) (by omega)
    simp at c0 c1 c2
    have cl := r1'.lt
    have d0 := r2'.cell (o := 0) (by omega)
    have d1 := r2'.cell (o := 1) (by omega)
    have d2 := r2'.cell (o := 2) (by omega)
    simp at d0 d1 d2
    have dl := r2'.lt
    by_cases hlt : p < n
    · have g1 := h.below BB
      have g2 := h2.below BB
      rcases g1.2.2 with ⟨h0, _⟩ | ⟨g, rfl, _, _, ra⟩
      · omega
      rcases g2.2.2 with ⟨h0, _⟩ | ⟨gg, rfl, _, _, rb⟩
      · omega
      have hgl := ra.lt
      have hgl2 := rb.lt
      have i0 : (0 : Int) ≤ (p : Int) := by omega
      have i1 : (p : Int) < (n : Int) := by omega
      have x0 := ra.cell (o := p * 5) (by omega)
      have x1 := ra.cell (o := p * 5 + 1) (by omega)
      have x2 := ra.cell (o := p * 5 + 2) (by omega)
      have x3 := ra.cell (o := p * 5 + 3) (by omega)
      have x4 := ra.cell (o := p * 5 + 4) (by omega)
      rw [rcell0] at x0
      rw [rcell1] at x1
      rw [rcell2] at x2
      rw [rcell3] at x3
      rw [rcell4] at x4
      have y0 := rb.cell (o := p * 5) (by omega)
      have y1 := rb.cell (o := p * 5 + 1) (by omega)
      have y2 := rb.cell (o := p * 5 + 2) (by omega)
      have y3 := rb.cell (o := p * 5 + 3) (by omega)
      have y4 := rb.cell (o := p * 5 + 4) (by omega)
      rw [rcell0] at y0
      rw [rcell1] at y1
      rw [rcell2] at y2
      rw [rcell3] at y3
      rw [rcell4] at y4
      clear g1 g2
      go_wp2_with fail
      refine wp_region_held_drew (S := fun w' => Kp wr w') (by kernel_rfl) ?_ (fun hHeld => ?_)
      · exact kp_zero _
      refine wpAnyH_take (i := 0) (v := ?_) rfl (by kernel_rfl) (by kernel_rfl) (by kernel_rfl) (fun _ _ _ h => h) (Or.inl ⟨by rfl, ?_⟩) hHeld ?_
      rotate_left
      · (intro w hSw; (try dsimp only at hSw); go_simp; try (with_reducible rfl))
      (try simp only [Act.put, List.getElem_toArray, List.getElem_cons_zero, List.getElem_cons_succ, List.setIfInBounds_toArray, List.set_cons_zero, List.set_cons_succ])
      refine wpAnyH_take (i := 1) (v := ?_) rfl (by kernel_rfl) (by kernel_rfl) (by kernel_rfl) (fun _ _ _ h => h) (Or.inl ⟨by rfl, ?_⟩) hHeld ?_
      rotate_left
      · (intro w hSw; (try dsimp only at hSw); go_simp; try (with_reducible rfl))
      (try simp only [Act.put, List.getElem_toArray, List.getElem_cons_zero, List.getElem_cons_succ, List.setIfInBounds_toArray, List.set_cons_zero, List.set_cons_succ])
      refine wpAnyH_take (i := 2) (v := ?_) rfl (by kernel_rfl) (by kernel_rfl) (by kernel_rfl) (fun _ _ _ h => h) (Or.inl ⟨by rfl, ?_⟩) hHeld ?_
      rotate_left
      · (intro w hSw; (try dsimp only at hSw); go_simp; try (with_reducible rfl))
      (try simp only [Act.put, List.getElem_toArray, List.getElem_cons_zero, List.getElem_cons_succ, List.setIfInBounds_toArray, List.set_cons_zero, List.set_cons_succ])
      refine wpAnyH_take (i := 3) (v := ?_) rfl (by kernel_rfl) (by kernel_rfl) (by kernel_rfl) (fun _ _ _ h => h) (Or.inl ⟨by rfl, ?_⟩) hHeld ?_
      rotate_left
      · (intro w hSw; (try dsimp only at hSw); go_simp; try (with_reducible rfl))
      (try simp only [Act.put, List.getElem_toArray, List.getElem_cons_zero, List.getElem_cons_succ, List.setIfInBounds_toArray, List.set_cons_zero, List.set_cons_succ])
      refine wpAnyH_take (i := 4) (v := ?_) rfl (by kernel_rfl) (by kernel_rfl) (by kernel_rfl) (fun _ _ _ h => h) (Or.inl ⟨by rfl, ?_⟩) hHeld ?_
      rotate_left
      · (intro w hSw; (try dsimp only at hSw); go_simp; try (with_reducible rfl))
      (try simp only [Act.put, List.getElem_toArray, List.getElem_cons_zero, List.getElem_cons_succ, List.setIfInBounds_toArray, List.set_cons_zero, List.set_cons_succ])
      refine wpAnyH_take (i := 5) (v := ?_) rfl (by kernel_rfl) (by kernel_rfl) (by kernel_rfl) (fun _ _ _ h => h) (Or.inl ⟨by rfl, ?_⟩) hHeld ?_
      rotate_left
      · (intro w hSw; (try dsimp only at hSw); go_simp; try (with_reducible rfl))
      (try simp only [Act.put, List.getElem_toArray, List.getElem_cons_zero, List.getElem_cons_succ, List.setIfInBounds_toArray, List.set_cons_zero, List.set_cons_succ])
      refine wpAnyH_take (i := 6) (v := ?_) rfl (by kernel_rfl) (by kernel_rfl) (by kernel_rfl) (fun _ _ _ h => h) (Or.inl ⟨by rfl, ?_⟩) hHeld ?_
      rotate_left
      · (intro w hSw; (try dsimp only at hSw); go_simp; try (with_reducible rfl))
      (try simp only [Act.put, List.getElem_toArray, List.getElem_cons_zero, List.getElem_cons_succ, List.setIfInBounds_toArray, List.set_cons_zero, List.set_cons_succ])
      refine wpAnyH_take (i := 7) (v := ?_) rfl (by kernel_rfl) (by kernel_rfl) (by kernel_rfl) (fun _ _ _ h => h) (Or.inl ⟨by rfl, ?_⟩) hHeld ?_
      rotate_left
      · (intro w hSw; (try dsimp only at hSw); go_simp; try (with_reducible rfl))
      (try simp only [Act.put, List.getElem_toArray, List.getElem_cons_zero, List.getElem_cons_succ, List.setIfInBounds_toArray, List.set_cons_zero, List.set_cons_succ])
      refine wpAnyH_take (i := 8) (v := ?_) rfl (by kernel_rfl) (by kernel_rfl) (by kernel_rfl) (fun _ _ _ h => h) (Or.inl ⟨by rfl, ?_⟩) hHeld ?_
      rotate_left
      · (intro w hSw; (try dsimp only at hSw); go_simp; try (with_reducible rfl))
      (try simp only [Act.put, List.getElem_toArray, List.getElem_cons_zero, List.getElem_cons_succ, List.setIfInBounds_toArray, List.set_cons_zero, List.set_cons_succ])
      refine wpAnyH_take (i := 9) (v := ?_) rfl (by kernel_rfl) (by kernel_rfl) (by kernel_rfl) (fun _ _ _ h => h) (Or.inl ⟨by rfl, ?_⟩) hHeld ?_
      rotate_left
      · (intro w hSw; (try dsimp only at hSw); go_simp; try (with_reducible rfl))
      (try simp only [Act.put, List.getElem_toArray, List.getElem_cons_zero, List.getElem_cons_succ, List.setIfInBounds_toArray, List.set_cons_zero, List.set_cons_succ])
      refine wpAnyH_ready (rs := [10]) (by kernel_rfl) (by simp) ?_
      refine AllReadyH.cons (o := _) rfl (fun K hK => ?_) AllReadyH.nil
      go_simp
      (refine (sameRegion_self _ _ _ _ _ _ _ _ _ _ _ (noUpds _) (noUpds _)).mono ?_; rintro e w8 ⟨rfl, hb8⟩; go_wp2_with fail)
      refine hK.out _ _ ?_ (fun hHeld2 => ?_)
      · exact kp_step hHeld hb8
      clear hK K hHeld
      have hHeld := hHeld2
      clear hHeld2
      (try simp only [Act.put, List.getElem_toArray, List.getElem_cons_zero, List.getElem_cons_succ, List.setIfInBounds_toArray, List.set_cons_zero, List.set_cons_succ])
      refine wpAnyH_take (i := 11) (v := ?_) rfl (by kernel_rfl) (by kernel_rfl) (by kernel_rfl) (fun _ _ _ h => h) (Or.inl ⟨by rfl, ?_⟩) hHeld ?_
      rotate_left
      · (intro w hSw; (try dsimp only at hSw); go_simp; try (with_reducible rfl))
      (try simp only [Act.put, List.getElem_toArray, List.getElem_cons_zero, List.getElem_cons_succ, List.setIfInBounds_toArray, List.set_cons_zero, List.set_cons_succ])
      refine wpAnyH_done (by kernel_rfl) ?_ _
      have hB' := hB.trans (hHeld.1.mono hB.size)
      clear hHeld
      go_wp2_with fail
      exact ⟨⟨p + 1, by omega, by go_num, hB'⟩, by simp [intOf]; omega⟩
    · obtain ⟨Wo, hWo⟩ : ∃ W, W = wr := ⟨_, rfl⟩
      subst hWo
      go_wp2_with fail
      go_loopw [6] (fun i wr => i = .int .i64 0 ∧ Below Wo.heap.size Wo wr) (fun i _ => 0)
      case atStart => exact ⟨rfl, Below.refl _ _⟩
      case round =>
        obtain ⟨rfl, hB2⟩ := hrel
        have s1 := r1'.below hB2
        clear c0 c1 c2 cl d0 d1 d2 dl
        have c0 := s1.cell (o := 0) (by omega)
        have c1 := s1.cell (o := 1) (by omega)
        have c2 := s1.cell (o := 2) (by omega)
        simp at c0 c1 c2
        have cl := s1.lt
        go_wp2_with fail
        go_ret
        exact ⟨rfl, BB.trans (hB2.mono BB.size)⟩
end Go.Proofs.Ytpookiebkiigcaa
