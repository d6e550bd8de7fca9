/-
  Contracts of the laws' readers and markers of new worlds: regions that have nothing, and no mail.
-/
import Derived.Test.YtpookiebkiigcaaZWorldNew27
namespace Go.Proofs.Ytpookiebkiigcaa
open Go.ChangeShapes Go.WideShapes Go.ChangeAt Go.RowKit
set_option linter.unusedSimpArgs false
set_option linter.unusedVariables false

theorem noUpds (w : World) : IsUpds w none 0 0 [] := ⟨rfl, Nat.le_refl _, Nat.zero_le _, fun _ hi => absurd hi (Nat.not_lt_zero _), Or.inl rfl⟩
theorem noMU (w : World) (lo hi : Nat) (f : Nat → Value) : MU w none 0 0 lo hi f := ⟨Nat.le_refl _, Nat.zero_le _, Or.inl ⟨rfl, rfl⟩⟩

/-- The cells of the regions 1, 2 and so on that have nothing. -/
def rcell (o : Nat) : Value := if o % 5 = 4 then .slice none 0 0 else if o % 5 = 0 ∨ o % 5 = 3 then .int .i64 (((o / 5 : Nat) : Int) + 1) else .int .i64 0
theorem rcell0 (p : Nat) : rcell (p * 5) = .int .i64 ((p : Int) + 1) := by
  unfold rcell; rw [if_neg (by omega), if_pos (by omega), show p * 5 / 5 = p by omega]
theorem rcell1 (p : Nat) : rcell (p * 5 + 1) = .int .i64 0 := by
  unfold rcell; rw [if_neg (by omega), if_neg (by omega)]
theorem rcell2 (p : Nat) : rcell (p * 5 + 2) = .int .i64 0 := by
  unfold rcell; rw [if_neg (by omega), if_neg (by omega)]
theorem rcell3 (p : Nat) : rcell (p * 5 + 3) = .int .i64 ((p : Int) + 1) := by
  unfold rcell; rw [if_neg (by omega), if_pos (by omega), show (p * 5 + 3) / 5 = p by omega]
theorem rcell4 (p : Nat) : rcell (p * 5 + 4) = .slice none 0 0 := by
  unfold rcell; rw [if_pos (by omega)]
/-- The cells of such regions when they are marked from k on. -/
def nmc (k : Int) (o : Nat) : Value := if o % 5 = 4 then .slice none 0 0 else .int .i64 (k + ((4 * (o / 5) + o % 5 : Nat) : Int))
theorem nmc_at (k : Int) (p j : Nat) (h : j < 4) : nmc k (p * 5 + j) = .int .i64 (k + 4 * (p : Int) + j) := by
  unfold nmc
  rw [if_neg (by omega), show (p * 5 + j) / 5 = p by omega, show (p * 5 + j) % 5 = j by omega]
  exact congrArg (fun z => Value.int .i64 z) (by omega)
theorem nmc4 (k : Int) (p : Nat) : nmc k (p * 5 + 4) = .slice none 0 0 := by
  unfold nmc; rw [if_pos (by omega)]

/-- A list of regions in a row of its own (or none). -/
def MG (w : World) (av : Option Addr) (n cap lo hi : Nat) (f : Nat → Value) : Prop :=
  n ≤ cap ∧ cap ≤ maxLen ∧ ((n = 0 ∧ av = none) ∨ ∃ g, av = some ⟨g, 0, none⟩ ∧ lo ≤ g ∧ g < hi ∧ RowAt w g (n * 5) f)
theorem MG.below {w w' : World} {av : Option Addr} {n cap lo hi : Nat} {f : Nat → Value} (h : MG w av n cap lo hi f) (hb : Below w.heap.size w w') : MG w' av n cap lo hi f :=
  ⟨h.1, h.2.1, h.2.2.imp id fun ⟨g, e, h1, h2, r⟩ => ⟨g, e, h1, h2, r.below hb⟩⟩

set_option maxHeartbeats 8000000 in
set_option maxRecDepth 100000 in
theorem markG_some (g n cap : Nat) (f : Nat → Value) (k : Int) (w : World) (h : RowAt w g (n * 5) f) (hf : Hid (∀ p, p < n → f (p * 5 + 4) = .slice none 0 0)) (hc : n ≤ cap) (hm : cap ≤ maxLen) (hn : n ≤ 1000) (hk : 0 ≤ k) (hk2 : k ≤ 1000000) :
    Calls Try.prog 70 #[.slice (some ⟨g, 0, none⟩) n cap, .int .i64 k] w fun e w' => e = .returned (.int .i64 (k + 4 * n)) ∧ RowAt w' g (n * 5) (nmc k) ∧ Gr g w w' := by
  unfold maxLen at hm
  go_enter Try.func70, Try.ntmps70
  go_wp2_with fail
  go_loopw [1, 5] (fun q i wr => ∃ (p : Nat) (x : Int), p ≤ n ∧ i = .int .i64 p ∧ Hid (x = k + 4 * p) ∧ 0 ≤ x ∧ x ≤ 2000000 ∧ q = .int .i64 x ∧ Gr g w wr ∧ ∃ f', RowAt wr g (n * 5) f' ∧ Hid (∀ o, o < p * 5 → f' o = nmc k o) ∧ Hid (∀ o, p * 5 ≤ o → f' o = f o)) (fun _ i _ => n - (intOf i).toNat)
  case atStart => exact ⟨0, k, Nat.zero_le _, rfl, (by omega : k = k + 4 * ((0 : Nat) : Int)), by omega, by omega, rfl, gr_refl _ _, f, h, fun o ho => absurd ho (by omega), fun o ho => rfl⟩
  case round =>
    obtain ⟨p, x, hp, rfl, hx, hx0, hx1, rfl, hG, f', hrow, hall, hrest⟩ := hrel
    have hgl := hrow.lt
    by_cases hlt : p < n
    · have i0 : (0 : Int) ≤ (p : Int) := by omega
      have i1 : (p : Int) < (n : Int) := by omega
      have d0 := hrow.cell (o := p * 5) (by omega)
      have y0 := hrow.free (o := p * 5) (by omega)
      have d1 := hrow.cell (o := p * 5 + 1) (by omega)
      have y1 := hrow.free (o := p * 5 + 1) (by omega)
      have d2 := hrow.cell (o := p * 5 + 1 + 1) (by omega)
      have y2 := hrow.free (o := p * 5 + 1 + 1) (by omega)
      have d3 := hrow.cell (o := p * 5 + 1 + 2) (by omega)
      have y3 := hrow.free (o := p * 5 + 1 + 2) (by omega)
      have d4 := hrow.cell (o := p * 5 + 4) (by omega)
      rw [hrest.out (p * 5 + 4) (by omega), hf.out p hlt] at d4
      go_wp2_with fail
      have r4 := (((hrow.set (o := p * 5) (by omega) (.int .i64 x)).set (o := p * 5 + 1) (by omega) (.int .i64 (x + 1))).set (o := p * 5 + 1 + 1) (by omega) (.int .i64 (x + 1 + 1))).set (o := p * 5 + 1 + 2) (by omega) (.int .i64 (x + 1 + 1 + 1))
      have g4 := gr_set (gr_set (gr_set (gr_set hG (p * 5) (.int .i64 x)) (p * 5 + 1) (.int .i64 (x + 1))) (p * 5 + 1 + 1) (.int .i64 (x + 1 + 1))) (p * 5 + 1 + 2) (.int .i64 (x + 1 + 1 + 1))
      refine (markU_any _ _ _ 0 0 (fun _ => undef) _ _ (noMU _ _ _ _) (by omega) (by omega) (by omega)).mono ?_
      rintro e w2 ⟨rfl, _, hmk⟩
      have hb2 := hmk.1 rfl
      have r5 := r4.below hb2
      have G5 := gr_trans g4 (gr_below hb2)
      clear hmk r4 g4 hb2 d0 y0 d1 y1 d2 y2 d3 y3 d4
      have e0 : x + 1 + 1 + 1 + 1 + 13 * ((0 : Nat) : Int) = x + 4 := by omega
      rw [e0]
      go_wp2_with fail
      refine ⟨⟨p + 1, x + 4, by omega, by go_num, (by have q := hx.out; omega : x + 4 = k + 4 * ((p + 1 : Nat) : Int)), by omega, (by have q := hx.out; omega), rfl, G5, _, r5, fun o ho => ?_, fun o ho => ?_⟩, by simp [intOf]; omega⟩
      · show (if o = p * 5 + 1 + 2 then _ else if o = p * 5 + 1 + 1 then _ else if o = p * 5 + 1 then _ else if o = p * 5 then _ else f' o) = _
        have q := hx.out
        by_cases e3 : o = p * 5 + 1 + 2
        · rw [if_pos e3, e3, show p * 5 + 1 + 2 = p * 5 + 3 by omega, nmc_at k p 3 (by omega)]
          exact congrArg (fun z => Value.int .i64 z) (by omega)
        rw [if_neg e3]
        by_cases e2 : o = p * 5 + 1 + 1
        · rw [if_pos e2, e2, show p * 5 + 1 + 1 = p * 5 + 2 by omega, nmc_at k p 2 (by omega)]
          exact congrArg (fun z => Value.int .i64 z) (by omega)
        rw [if_neg e2]
        by_cases e1 : o = p * 5 + 1
        · rw [if_pos e1, e1, nmc_at k p 1 (by omega)]
          exact congrArg (fun z => Value.int .i64 z) (by omega)
        rw [if_neg e1]
        by_cases e0 : o = p * 5
        · have := nmc_at k p 0 (by omega)
          rw [if_pos e0, e0, show p * 5 = p * 5 + 0 by omega, this]
          exact congrArg (fun z => Value.int .i64 z) (by omega)
        rw [if_neg e0]
        by_cases hlo : o < p * 5
        · exact hall.out o hlo
        · have e4 : o = p * 5 + 4 := by omega
          rw [e4, nmc4, hrest.out _ (by omega), hf.out p hlt]
      · show (if o = p * 5 + 1 + 2 then _ else if o = p * 5 + 1 + 1 then _ else if o = p * 5 + 1 then _ else if o = p * 5 then _ else f' o) = _
        rw [if_neg (by omega), if_neg (by omega), if_neg (by omega), if_neg (by omega)]
        exact hrest.out o (by omega)
    · have hpn : p = n := by omega
      have hrow' := hrow.same fun o ho => hall.out o (by rw [hpn]; exact ho)
      have HX : Hid (x = k + 4 * (n : Int)) := (by rw [← hpn]; exact hx.out : x = k + 4 * (n : Int))
      clear hpn
      go_wp2_with fail
      go_ret
      exact ⟨by rw [HX.out]; rfl, hrow', hG⟩

set_option maxHeartbeats 8000000 in
set_option maxRecDepth 100000 in
theorem heldG_some (g n cap : Nat) (k : Int) (w : World) (h : RowAt w g (n * 5) (nmc k)) (hc : n ≤ cap) (hm : cap ≤ maxLen) (hn : n ≤ 1000) (hk : 0 ≤ k) (hk2 : k ≤ 1000000) :
    Calls Try.prog 72 #[.slice (some ⟨g, 0, none⟩) n cap, .int .i64 k] w fun e w' => e = .returned (.int .i64 (k + 4 * n)) ∧ Below w.heap.size w w' := by
  unfold maxLen at hm
  go_enter Try.func72, Try.ntmps72
  go_wp2_with fail
  go_loopw [1, 5] (fun q i wr => ∃ (p : Nat) (x : Int), p ≤ n ∧ i = .int .i64 p ∧ Hid (x = k + 4 * p) ∧ 0 ≤ x ∧ x ≤ 2000000 ∧ q = .int .i64 x ∧ Below w.heap.size w wr) (fun _ i _ => n - (intOf i).toNat)
  case atStart => exact ⟨0, k, Nat.zero_le _, rfl, (by omega : k = k + 4 * ((0 : Nat) : Int)), by omega, by omega, rfl, Below.refl _ _⟩
  case round =>
    obtain ⟨p, x, hp, rfl, hx, hx0, hx1, rfl, hB⟩ := hrel
    have hrow := h.below hB
    have hgl := hrow.lt
    by_cases hlt : p < n
    · have i0 : (0 : Int) ≤ (p : Int) := by omega
      have i1 : (p : Int) < (n : Int) := by omega
      have d0 := hrow.cell (o := p * 5) (by omega)
      have d1 := hrow.cell (o := p * 5 + 1) (by omega)
      have d2 := hrow.cell (o := p * 5 + 1 + 1) (by omega)
      have d3 := hrow.cell (o := p * 5 + 1 + 2) (by omega)
      have d4 := hrow.cell (o := p * 5 + 4) (by omega)
      have z0 := nmc_at k p 0 (by omega)
      have z1 := nmc_at k p 1 (by omega)
      have z2 := nmc_at k p 2 (by omega)
      have z3 := nmc_at k p 3 (by omega)
      have q := hx.out
      rw [show p * 5 = p * 5 + 0 by omega, z0, show k + 4 * (p : Int) + ((0 : Nat) : Int) = x by omega, Nat.add_zero] at d0
      rw [z1, show k + 4 * (p : Int) + ((1 : Nat) : Int) = x + 1 by omega] at d1
      rw [show nmc k (p * 5 + 1 + 1) = nmc k (p * 5 + 2) from rfl, z2, show k + 4 * (p : Int) + ((2 : Nat) : Int) = x + 1 + 1 by omega] at d2
      rw [show nmc k (p * 5 + 1 + 2) = nmc k (p * 5 + 3) from rfl, z3, show k + 4 * (p : Int) + ((3 : Nat) : Int) = x + 1 + 1 + 1 by omega] at d3
      rw [nmc4] at d4
      clear q z0 z1 z2 z3
      go_wp2_with fail
      refine (heldU_any _ _ _ 0 0 _ _ (noMU _ _ _ _) (by omega) (by omega) (by omega)).mono ?_
      rintro e w2 ⟨rfl, hb2⟩
      have hB2 := hB.trans (hb2.mono hB.size)
      have e0 : x + 1 + 1 + 1 + 1 + 13 * ((0 : Nat) : Int) = x + 4 := by omega
      rw [e0]
      have e1 : ¬ x + 4 < 0 := by omega
      clear hb2 d0 d1 d2 d3 d4 hrow
      go_wp2_with fail
      exact ⟨⟨p + 1, x + 4, by omega, by go_num, (by have q := hx.out; omega : x + 4 = k + 4 * ((p + 1 : Nat) : Int)), by omega, (by have q := hx.out; omega), rfl, hB2⟩, by simp [intOf]; omega⟩
    · have hpn : p = n := by omega
      have HX : Hid (x = k + 4 * (n : Int)) := (by rw [← hpn]; exact hx.out : x = k + 4 * (n : Int))
      clear hpn
      go_wp2_with fail
      go_ret
      exact ⟨by rw [HX.out]; rfl, hB⟩

set_option maxHeartbeats 8000000 in
set_option maxRecDepth 100000 in
theorem eqG_some (g g2 n cap cap2 : Nat) (w : World) (h : RowAt w g (n * 5) rcell) (h2 : RowAt w g2 (n * 5) rcell) (hc : n ≤ cap) (hm : cap ≤ maxLen) (hc2 : n ≤ cap2) (hm2 : cap2 ≤ maxLen) :
    Calls Try.prog 68 #[.slice (some ⟨g, 0, none⟩) n cap, .slice (some ⟨g2, 0, none⟩) n cap2] w fun e w' => e = .returned (.bool true) ∧ Below w.heap.size w w' := by
  unfold maxLen at hm hm2
  have hnb : ((n : Int) != (n : Int)) = false := by simp
  go_enter Try.func68, Try.ntmps68
  go_wp2_with fail
  go_loopw [5] (fun i wr => ∃ p : Nat, p ≤ n ∧ i = .int .i64 p ∧ Below w.heap.size w wr) (fun i _ => n - (intOf i).toNat)
  case atStart => exact ⟨0, Nat.zero_le _, rfl, Below.refl _ _⟩
  case round =>
    obtain ⟨p, hp, rfl, hB⟩ := hrel
    by_cases hlt : p < n
    · have r1 := h.below hB
      have r2 := h2.below hB
      have hgl := r1.lt
      have hgl2 := r2.lt
      have i0 : (0 : Int) ≤ (p : Int) := by omega
      have i1 : (p : Int) < (n : Int) := by omega
      have d0 := r1.cell (o := p * 5) (by omega)
      have d1 := r1.cell (o := p * 5 + 1) (by omega)
      have d2 := r1.cell (o := p * 5 + 2) (by omega)
      have d3 := r1.cell (o := p * 5 + 3) (by omega)
      have d4 := r1.cell (o := p * 5 + 4) (by omega)
      rw [rcell0] at d0
      rw [rcell1] at d1
      rw [rcell2] at d2
      rw [rcell3] at d3
      rw [rcell4] at d4
      have c0 := r2.cell (o := p * 5) (by omega)
      have c1 := r2.cell (o := p * 5 + 1) (by omega)
      have c2 := r2.cell (o := p * 5 + 2) (by omega)
      have c3 := r2.cell (o := p * 5 + 3) (by omega)
      have c4 := r2.cell (o := p * 5 + 4) (by omega)
      rw [rcell0] at c0
      rw [rcell1] at c1
      rw [rcell2] at c2
      rw [rcell3] at c3
      rw [rcell4] at c4
      go_wp2_with fail
      refine wp_region_held_drew (S := fun w' => Kp wr w') (by kernel_rfl) ?_ (fun hHeld => ?_)
      · exact kp_zero _
      refine wpAnyH_take (i := 0) (v := ?_) rfl (by kernel_rfl) (by kernel_rfl) (by kernel_rfl) (fun _ _ _ h => h) (Or.inl ⟨by rfl, ?_⟩) hHeld ?_
      rotate_left
      · (intro w hSw; (try dsimp only at hSw); go_simp; try (with_reducible rfl))
      (try simp only [Act.put, List.getElem_toArray, List.getElem_cons_zero, List.getElem_cons_succ, List.setIfInBounds_toArray, List.set_cons_zero, List.set_cons_succ])
      refine wpAnyH_take (i := 1) (v := ?_) rfl (by kernel_rfl) (by kernel_rfl) (by kernel_rfl) (fun _ _ _ h => h) (Or.inl ⟨by rfl, ?_⟩) hHeld ?_
      rotate_left
      · (intro w hSw; (try dsimp only at hSw); go_simp; try (with_reducible rfl))
      (try simp only [Act.put, List.getElem_toArray, List.getElem_cons_zero, List.getElem_cons_succ, List.setIfInBounds_toArray, List.set_cons_zero, List.set_cons_succ])
      refine wpAnyH_take (i := 2) (v := ?_) rfl (by kernel_rfl) (by kernel_rfl) (by kernel_rfl) (fun _ _ _ h => h) (Or.inl ⟨by rfl, ?_⟩) hHeld ?_
      rotate_left
      · (intro w hSw; (try dsimp only at hSw); go_simp; try (with_reducible rfl))
      (try simp only [Act.put, List.getElem_toArray, List.getElem_cons_zero, List.getElem_cons_succ, List.setIfInBounds_toArray, List.set_cons_zero, List.set_cons_succ])
      refine wpAnyH_take (i := 3) (v := ?_) rfl (by kernel_rfl) (by kernel_rfl) (by kernel_rfl) (fun _ _ _ h => h) (Or.inl ⟨by rfl, ?_⟩) hHeld ?_
      rotate_left
      · (intro w hSw; (try dsimp only at hSw); go_simp; try (with_reducible rfl))
      (try simp only [Act.put, List.getElem_toArray, List.getElem_cons_zero, List.getElem_cons_succ, List.setIfInBounds_toArray, List.set_cons_zero, List.set_cons_succ])
      refine wpAnyH_take (i := 4) (v := ?_) rfl (by kernel_rfl) (by kernel_rfl) (by kernel_rfl) (fun _ _ _ h => h) (Or.inl ⟨by rfl, ?_⟩) hHeld ?_
      rotate_left
      · (intro w hSw; (try dsimp only at hSw); go_simp; try (with_reducible rfl))
      (try simp only [Act.put, List.getElem_toArray, List.getElem_cons_zero, List.getElem_cons_succ, List.setIfInBounds_toArray, List.set_cons_zero, List.set_cons_succ])
      refine wpAnyH_take (i := 5) (v := ?_) rfl (by kernel_rfl) (by kernel_rfl) (by kernel_rfl) (fun _ _ _ h => h) (Or.inl ⟨by rfl, ?_⟩) hHeld ?_
      rotate_left
      · (intro w hSw; (try dsimp only at hSw); go_simp; try (with_reducible rfl))
      (try simp only [Act.put, List.getElem_toArray, List.getElem_cons_zero, List.getElem_cons_succ, List.setIfInBounds_toArray, List.set_cons_zero, List.set_cons_succ])
      refine wpAnyH_take (i := 6) (v := ?_) rfl (by kernel_rfl) (by kernel_rfl) (by kernel_rfl) (fun _ _ _ h => h) (Or.inl ⟨by rfl, ?_⟩) hHeld ?_
      rotate_left
      · (intro w hSw; (try dsimp only at hSw); go_simp; try (with_reducible rfl))
      (try simp only [Act.put, List.getElem_toArray, List.getElem_cons_zero, List.getElem_cons_succ, List.setIfInBounds_toArray, List.set_cons_zero, List.set_cons_succ])
      refine wpAnyH_take (i := 7) (v := ?_) rfl (by kernel_rfl) (by kernel_rfl) (by kernel_rfl) (fun _ _ _ h => h) (Or.inl ⟨by rfl, ?_⟩) hHeld ?_
      rotate_left
      · (intro w hSw; (try dsimp only at hSw); go_simp; try (with_reducible rfl))
      (try simp only [Act.put, List.getElem_toArray, List.getElem_cons_zero, List.getElem_cons_succ, List.setIfInBounds_toArray, List.set_cons_zero, List.set_cons_succ])
      refine wpAnyH_ready (rs := [8]) (by kernel_rfl) (by simp) ?_
      refine AllReadyH.cons (o := _) rfl (fun K hK => ?_) AllReadyH.nil
      go_simp
      (refine (eqRegion_self _ _ _ _ _ _ _ _ _ _ _ (noUpds _) (noUpds _)).mono ?_; rintro e w8 ⟨rfl, hb8⟩; go_wp2_with fail)
      refine hK.out _ _ ?_ (fun hHeld2 => ?_)
      · exact kp_step hHeld hb8
      clear hK K hHeld
      have hHeld := hHeld2
      clear hHeld2
      (try simp only [Act.put, List.getElem_toArray, List.getElem_cons_zero, List.getElem_cons_succ, List.setIfInBounds_toArray, List.set_cons_zero, List.set_cons_succ])
      refine wpAnyH_take (i := 9) (v := ?_) rfl (by kernel_rfl) (by kernel_rfl) (by kernel_rfl) (fun _ _ _ h => h) (Or.inl ⟨by rfl, ?_⟩) hHeld ?_
      rotate_left
      · (intro w hSw; (try dsimp only at hSw); go_simp; try (with_reducible rfl))
      (try simp only [Act.put, List.getElem_toArray, List.getElem_cons_zero, List.getElem_cons_succ, List.setIfInBounds_toArray, List.set_cons_zero, List.set_cons_succ])
      refine wpAnyH_done (by kernel_rfl) ?_ _
      have hB' := hB.trans (hHeld.1.mono hB.size)
      clear hHeld
      go_wp2_with fail
      exact ⟨⟨p + 1, by omega, by go_num, hB'⟩, by simp [intOf]; omega⟩
    · go_wp2_with fail
      go_ret
      exact ⟨rfl, hB⟩
end Go.Proofs.Ytpookiebkiigcaa
