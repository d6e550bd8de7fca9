/-
  Texts of one proof, joined: RdrAll.
-/
import Derived.Test.YtbhidjagmonnaaaGreatDoorZSegments46
import Derived.Test.YtbhidjagmonnaaaGreatDoorZSegments41
import Derived.Test.YtbhidjagmonnaaaGreatDoorZSegments21
import Derived.Test.YtbhidjagmonnaaaGreatDoorZSegments47
namespace Go.Proofs.YtbhidjagmonnaaaGreatDoor
open Go.ChangeShapes Go.WideShapes Go.ChangeAt Go.RowKit
set_option linter.unusedSimpArgs false
set_option linter.unusedVariables false

/-- Updates whose texts are short. -/
def Short (us : List M1.Upd) : Prop := ∀ x ∈ us, x.s.size ≤ 1000
theorem Short.at {us : List M1.Upd} (h : Short us) {i : Nat} (hi : i < us.length) : (M1.up us i).s.size ≤ 1000 := by
  have : M1.up us i = us[i] := by simp [M1.up, List.getD, hi]
  rw [this]; exact h _ (List.getElem_mem hi)
theorem Short.max {us : List M1.Upd} (h : Short us) : ∀ i, i < us.length → (M1.up us i).s.size ≤ maxLen := fun i hi => by
  have := h.at hi
  unfold maxLen; omega
/-- Updates of the regions 1 .. 3. -/
def R3 (us : List M1.Upd) : Prop := ∀ x ∈ us, 1 ≤ x.dr ∧ x.dr ≤ 3
theorem R3.at {us : List M1.Upd} (h : R3 us) {i : Nat} (hi : i < us.length) : 1 ≤ (M1.up us i).dr ∧ (M1.up us i).dr ≤ 3 := by
  have : M1.up us i = us[i] := by simp [M1.up, List.getD, hi]
  rw [this]; exact h _ (List.getElem_mem hi)
theorem R3.put {us ns : List M1.Upd} {u : M1.Upd} (h : R3 us) (hu : 1 ≤ u.dr ∧ u.dr ≤ 3) (hp : M1.PutR us u ns) : R3 ns := fun x hx => by
  rcases hp.mem x hx with h1 | rfl
  · exact h x h1
  · exact hu
theorem Short.put {us ns : List M1.Upd} {u : M1.Upd} (h : Short us) (hu : u.s.size ≤ 1000) (hp : M1.PutR us u ns) : Short ns := fun x hx => by
  rcases hp.mem x hx with h1 | rfl
  · exact h x h1
  · exact hu
theorem MU.gr {w w' : World} {av : Option Addr} {n cap lo hi g : Nat} {f : Nat → Value} (h : MU w av n cap lo hi f) (hg : Gr g w w') (hb : g < lo) : MU w' av n cap lo hi f :=
  ⟨h.1, h.2.1, h.2.2.imp id fun ⟨k, e, h1, h2, r⟩ => ⟨k, e, h1, h2, r.gr hg (by omega)⟩⟩
theorem MU.wide {w : World} {av : Option Addr} {n cap lo hi lo' hi' : Nat} {f : Nat → Value} (h : MU w av n cap lo hi f) (h1 : lo' ≤ lo) (h2 : hi ≤ hi') : MU w av n cap lo' hi' f :=
  ⟨h.1, h.2.1, h.2.2.imp id fun ⟨k, e, h3, h4, r⟩ => ⟨k, e, by omega, by omega, r⟩⟩
theorem MU.far {w : World} {av : Option Addr} {n cap lo hi : Nat} {f : Nat → Value} (h : MU w av n cap lo hi f) {p : Addr} (hp : ∀ q, av = some q → ¬ q.block = p.block) (v : Value) : MU (w.setCell p v) av n cap lo hi f :=
  ⟨h.1, h.2.1, h.2.2.imp id fun ⟨k, e, h3, h4, r⟩ => ⟨k, e, h3, h4, r.far (fun e2 => hp _ e (by rw [e2])) v⟩⟩

theorem owns_lower {w : World} {base base' : Nat} {e : TypeId} {size n : Nat} {v : Value} {xs : List Value} (h : w.ownsRow base e size v n xs) (hb : base' ≤ base) : w.ownsRow base' e size v n xs :=
  ⟨h.1, h.2.imp id fun ⟨g, cap, cur, hv, hg, r⟩ => ⟨g, cap, cur, hv, by omega, r⟩⟩
theorem owns_grA {w w' : World} {base g : Nat} {e : TypeId} {size n : Nat} {v : Value} {xs : List Value} (h : w.ownsRow base e size v n xs) (hG : Gr g w w') (hg : g < base) : w'.ownsRow base e size v n xs :=
  ⟨h.1, h.2.imp id fun ⟨k, cap, cur, hv, hk, hh, r⟩ => ⟨k, cap, cur, hv, hk, by
    have hlt : k < w.heap.size := by
      rcases Nat.lt_or_ge k w.heap.size with h | h
      · exact h
      · rw [Array.getElem?_eq_none h] at hh; cases hh
    rw [hG.block k hlt (fun e => by injection e with e; omega)]; exact hh, r⟩⟩
theorem owns_far {w : World} {base : Nat} {e : TypeId} {size n cap : Nat} {av : Option Addr} {xs : List Value} (h : w.ownsRow base e size (.slice av n cap) n xs) {p : Addr} (hp : ∀ q, av = some q → ¬ q.block = p.block) (u : Value) : (w.setCell p u).ownsRow base e size (.slice av n cap) n xs :=
  ⟨h.1, h.2.imp id fun ⟨k, cp, cur, hv, hk, hh, r⟩ => ⟨k, cp, cur, hv, hk, by
    have : ¬ k = p.block := by
      injection hv with h1 _ _
      exact hp _ h1
    rw [Below.heap_setCell _ _ _ _ this]; exact hh, r⟩⟩

/-- What a round of 'all' holds: the list so far, the four times, the reader. -/
structure AllR (w wr : World) (g : Nat) (av : Option Addr) (len cap : Nat) (bv : Option Addr) (c : Nat) (us : List M1.Upd) : Prop where
  mu : MU wr bv us.length c w.heap.size wr.heap.size (ucell us)
  own : wr.ownsRow w.heap.size 47 13 (.slice bv us.length c) us.length (ucL us)
  off : ∀ q, bv = some q → ¬ q.block = w.heap.size + 1
  sh : Short us
  r3 : R3 us
  row : ∃ l : Nat → Int, RowAt wr (w.heap.size + 1) 4 (fun o => .int .i64 (l o))
  rd : Rdr wr g av len cap
  gr : Gr g w wr
  sz : w.heap.size + 2 ≤ wr.heap.size

theorem AllR.grow {w wr w' : World} {g : Nat} {av : Option Addr} {len cap : Nat} {bv : Option Addr} {c : Nat} {us : List M1.Upd} (h : AllR w wr g av len cap bv c us) (hg : g < w.heap.size) (hR : Rdr w' g av len cap) (hG : Gr g wr w') : AllR w w' g av len cap bv c us :=
  ⟨(h.mu.gr hG hg).wide (Nat.le_refl _) hG.size, owns_grA h.own hG hg, h.off, h.sh, h.r3, let ⟨l, r⟩ := h.row; ⟨l, r.gr hG (by omega)⟩, hR, gr_trans h.gr hG, Nat.le_trans h.sz hG.size⟩
theorem AllR.below {w wr w' : World} {g : Nat} {av : Option Addr} {len cap : Nat} {bv : Option Addr} {c : Nat} {us : List M1.Upd} (h : AllR w wr g av len cap bv c us) (hg : g < w.heap.size) (hb : Below wr.heap.size wr w') : AllR w w' g av len cap bv c us :=
  h.grow hg (h.rd.below hb) (gr_below hb)
theorem AllR.upds {w wr : World} {g : Nat} {av : Option Addr} {len cap : Nat} {bv : Option Addr} {c : Nat} {us : List M1.Upd} (h : AllR w wr g av len cap bv c us) : IsUpds wr bv us.length c us := h.mu.upds rfl h.sh.max
theorem AllR.set {w wr : World} {g : Nat} {av : Option Addr} {len cap : Nat} {bv : Option Addr} {c : Nat} {us : List M1.Upd} (h : AllR w wr g av len cap bv c us) (h0 : Rdr w g av len cap) {p : Nat} (hp : w.heap.size + 2 ≤ p) (hbv : ∀ q, bv = some q → ¬ q.block = p) (o : Nat) (v : Value) : AllR w (wr.setCell ⟨p, o, none⟩ v) g av len cap bv c us :=
  ⟨by have := h.mu.far (p := ⟨p, o, none⟩) hbv v; simpa [World.setCell] using this, owns_far h.own (p := ⟨p, o, none⟩) hbv v, h.off, h.sh, h.r3, let ⟨l, r⟩ := h.row; ⟨l, r.far (by show p ≠ _; omega) v⟩, h.rd.far (by have := h0.lt; show p ≠ g; omega) (h0.old (by show _ ≤ p; omega)) _, gr_new h.gr _ (by show _ ≤ p; omega) _, by have := h.sz; simpa [World.setCell] using this⟩

theorem AllR.setRow {w wr : World} {g : Nat} {av : Option Addr} {len cap : Nat} {bv : Option Addr} {c : Nat} {us : List M1.Upd} (h : AllR w wr g av len cap bv c us) (h0 : Rdr w g av len cap) {o : Nat} (ho : o < 4) (v : Int) : AllR w (wr.setCell ⟨w.heap.size + 1, o, none⟩ (.int .i64 v)) g av len cap bv c us :=
  ⟨by have := h.mu.far (p := ⟨w.heap.size + 1, o, none⟩) h.off (.int .i64 v); simpa [World.setCell] using this, owns_far h.own (p := ⟨w.heap.size + 1, o, none⟩) h.off _, h.off, h.sh, h.r3, let ⟨l, r⟩ := h.row; ⟨fun x => if x = o then v else l x, (r.set ho (.int .i64 v)).same fun x hx => by by_cases e : x = o <;> simp [e]⟩, h.rd.far (by have := h0.lt; show w.heap.size + 1 ≠ g; omega) (h0.old (by show _ ≤ w.heap.size + 1; omega)) _, gr_new h.gr _ (by show _ ≤ w.heap.size + 1; omega) _, by have := h.sz; simpa [World.setCell] using this⟩
theorem AllR.lt {w wr : World} {g : Nat} {av : Option Addr} {len cap : Nat} {bv : Option Addr} {c : Nat} {us : List M1.Upd} (h : AllR w wr g av len cap bv c us) : ∀ q, bv = some q → q.block < wr.heap.size := fun q e => by
  rcases h.mu.2.2 with ⟨_, e2⟩ | ⟨k, e2, _, h2, _⟩
  · rw [e] at e2; cases e2
  · rw [e] at e2; injection e2 with e2; rw [e2]; exact h2

set_option maxHeartbeats 40000000 in
set_option maxRecDepth 100000 in
theorem all_own (g : Nat) (av : Option Addr) (len cap : Nat) (most : Int) (w : World) (h : Rdr w g av len cap) (hm0 : 0 ≤ most) (hm1 : most ≤ 1000) :
    Calls Tryz.prog 23 #[.pointer (some ⟨g, 0, none⟩), .int .i64 most] w fun e w' => ∃ (bv : Option Addr) (c : Nat) (us : List M1.Upd), e = .returned (.slice bv us.length c) ∧ (us.length : Int) ≤ most ∧ Short us ∧ R3 us ∧ MU w' bv us.length c w.heap.size w'.heap.size (ucell us) ∧ w'.ownsRow w.heap.size 47 13 (.slice bv us.length c) us.length (ucL us) ∧ Rdr w' g av len cap ∧ Gr g w w' := by
  have hg := h.lt
  go_enter Tryz.func23, Tryz.ntmps23
  go_wp2_with fail
  obtain ⟨W0, hW0⟩ : ∃ W, W = ((w.alloc (.cells #[] 47)).alloc (.cells #[.int .i64 0, .int .i64 0, .int .i64 0, .int .i64 0] 2)) := ⟨_, rfl⟩
  have hA0 : AllR w W0 g av len cap (some ⟨w.heap.size, 0, none⟩) 0 [] := by
    rw [hW0]
    refine ⟨⟨Nat.le_refl _, Nat.zero_le _, Or.inr ⟨_, rfl, Nat.le_refl _, by simp; omega, ⟨by simp; omega, fun o ho => absurd ho (by simp)⟩⟩⟩, owns_below (ownsU_empty w 47) ((Below.refl _ _).alloc (Nat.le_refl _) _), fun q e => by injection e with e; subst e; simp, fun x hx => absurd hx (by simp), fun x hx => absurd hx (by simp), ⟨fun _ => 0, ?_⟩, (h.below ((Below.refl _ _).alloc (Nat.le_refl _) _)).below ((Below.refl _ _).alloc (Nat.le_refl _) _), gr_alloc (gr_alloc (gr_refl _ _) _) _, by simp⟩
    have := (RowAt.new (w.alloc (.cells #[] 47)) #[.int .i64 0, .int .i64 0, .int .i64 0, .int .i64 0] 2)
    rw [show (w.alloc (.cells #[] 47)).heap.size = w.heap.size + 1 from by simp] at this
    exact this.same fun o ho => by
      match o, ho with
      | 0, _ => rfl
      | 1, _ => rfl
      | 2, _ => rfl
      | 3, _ => rfl
  rw [← hW0]
  clear hW0
  refine (below_any _ _ _ _ _ _ hA0.rd (by omega) (by omega)).mono ?_
  rintro e w1 ⟨x, rfl, x0, x1, hR1, hG1⟩
  have hA1 := hA0.grow hg hR1 hG1
  go_wp2_with fail
  go_loopw [5, 7] (fun v i wr => ∃ (z : Int) (bv : Option Addr) (c : Nat) (us : List M1.Upd), 0 ≤ z ∧ i = .int .i64 z ∧ v = .slice bv us.length c ∧ (us.length : Int) + z ≤ most ∧ AllR w wr g av len cap bv c us) (fun _ i _ => (intOf i).toNat)
  case atStart => exact ⟨x, _, _, [], x0, rfl, rfl, by simp; omega, hA1⟩
  case round =>
    clear hA0 hA1 hR1 hG1
    obtain ⟨z, bv, c, us, hz0, rfl, rfl, hzl, hA⟩ := hrel
    by_cases hlt : 0 < z
    · go_wp2_with fail
      refine (update_any _ _ _ _ _ hA.rd).mono ?_
      rintro e w2 ⟨u, rfl, hus, hu1, hu3, hR2, hG2⟩
      have hA2 := hA.grow hg hR2 hG2
      clear hA hR2 hG2
      go_wp2_with fail
      obtain ⟨w3, hw3⟩ : ∃ W, W = (w2.alloc (.cells #[.int .i64 u.dr, .int .i64 u.dn, .int .i64 u.sw, .int .i64 u.sc, .int .i64 u.sr, .int .i64 u.k, .int .i64 u.tr, .int .i64 u.id, .int .i64 u.pa, .string u.s, .int .i64 u.st, .int .i64 u.en, .int .i64 u.lv] 47)) := ⟨_, rfl⟩
      have pr3 : RowAt w3 w2.heap.size 13 (ucf u) := by rw [hw3]; exact rowU w2 u _
      have hb3 : Below w2.heap.size w2 w3 := by rw [hw3]; exact (Below.refl _ _).alloc (Nat.le_refl _) _
      have hz3 : w3.heap.size = w2.heap.size + 1 := by rw [hw3]; simp
      rw [← hw3]
      clear hw3
      have hA3 := hA2.below hg hb3
      have hbl := hA2.lt
      have hsz2 := hA2.sz
      obtain ⟨p, hp⟩ : ∃ p, p = w2.heap.size := ⟨_, rfl⟩
      rw [← hp] at pr3 ⊢
      have hbp : ∀ q, bv = some q → ¬ q.block = p := fun q e => by have := hbl q e; omega
      have hp2 : w.heap.size + 2 ≤ p := by omega
      have hp3 : p < w3.heap.size := by omega
      have hpg : ¬ p = g := by omega
      clear hA2 hb3 hz3 hbl hsz2 hp
      have k0 := pr3.cell (o := 0) (by omega)
      simp [ucf, ucs] at k0
      obtain ⟨y, hy⟩ : ∃ y, Hid (y = IntKind.i64.wrap (M1.fm (M1.l3v us) u.dr + 1)) := ⟨_, rfl⟩
      refine wp_region_held_drew (S := fun w' => AllR w w' g av len cap bv c us ∧ w'.cell? ⟨p, 0, none⟩ = some (.int .i64 u.dr)) (by kernel_rfl) ?_ (fun hHeld => ?_)
      · exact ⟨hA3.below hg (Below.refl _ _).drew, k0⟩
      refine wpAnyH_take (i := 0) (v := ?_) rfl (by kernel_rfl) (by kernel_rfl) (by kernel_rfl) (fun _ _ _ h => h) (Or.inl ⟨by rfl, ?_⟩) hHeld ?_
      rotate_left
      · (intro w hSw; (try dsimp only at hSw); go_simp; try (with_reducible rfl))
      (try simp only [Act.put, aZ, bZ, cZ, dZ, eZ, fZ])
      refine wpAnyH_take (i := 2) (v := ?_) rfl (by kernel_rfl) (by kernel_rfl) (by kernel_rfl) (fun _ _ _ h => h) (Or.inl ⟨by rfl, ?_⟩) hHeld ?_
      rotate_left
      · (intro w hSw; (try dsimp only at hSw); go_simp; try (with_reducible rfl))
      (try simp only [Act.put, aZ, bZ, cZ, dZ, eZ, fZ])
      refine wpAnyH_take (i := 3) (v := ?_) rfl (by kernel_rfl) (by kernel_rfl) (by kernel_rfl) (fun _ _ _ h => h) (Or.inl ⟨by rfl, ?_⟩) hHeld ?_
      rotate_left
      · (intro w hSw; (try dsimp only at hSw); go_simp; try (with_reducible rfl))
      (try simp only [Act.put, aZ, bZ, cZ, dZ, eZ, fZ])
      refine wpAnyH_take (i := 4) (v := .int .i64 u.dr) rfl (by kernel_rfl) (by kernel_rfl) (by kernel_rfl) (fun _ _ _ h => h) (Or.inl ⟨by rfl, ?_⟩) hHeld ?_
      · (intro w hSw; (try dsimp only at hSw); go_simp; (try rw [hSw.2]))
      (try simp only [Act.put, aZ, bZ, cZ, dZ, eZ, fZ])
      refine wpAnyH_ready (rs := [1]) (by kernel_rfl) (by simp) ?_
      refine AllReadyH.cons (o := _) rfl (fun K hK => ?_) AllReadyH.nil
      go_simp
      (refine (l3Vector_gen _ _ _ _ _ hHeld.1.upds (by omega)).mono ?_; rintro e w4 ⟨⟨v4, rfl, own4⟩, hb4⟩; obtain ⟨dv, dc, rfl, mv4⟩ := MV.of_owns own4; go_wp2_with fail)
      refine hK.out _ _ ?_ (fun hHeld2 => ?_)
      · exact ⟨hHeld.1.below hg hb4, (hb4.cell (p := ⟨p, 0, none⟩) (by show p < w3.heap.size; omega)).trans hHeld.2⟩
      clear hK K hHeld
      have hHeld := hHeld2
      clear hHeld2
      (try simp only [Act.put, aZ, bZ, cZ, dZ, eZ, fZ])
      refine wpAnyH_ready (rs := [5]) (by kernel_rfl) (by simp) ?_
      refine AllReadyH.cons (o := _) rfl (fun K hK => ?_) AllReadyH.nil
      go_simp
      (refine (l1Of_gen _ _ _ _ _ _ (mv4.vec rfl)).mono ?_; rintro e w5 ⟨rfl, rfl⟩; go_wp2_with fail)
      refine hK.out _ _ ?_ (fun hHeld2 => ?_)
      · exact hHeld
      clear hK K hHeld
      have hHeld := hHeld2
      clear hHeld2
      (try simp only [Act.put, aZ, bZ, cZ, dZ, eZ, fZ])
      refine wpAnyH_take (i := 6) (v := .int .i64 y) rfl (by kernel_rfl) (by kernel_rfl) (by kernel_rfl) (fun _ _ _ h => h) (Or.inl ⟨by rfl, ?_⟩) hHeld ?_
      · (intro w hSw; (try dsimp only at hSw); go_simp; (try rw [hy.out]))
      (try simp only [Act.put, aZ, bZ, cZ, dZ, eZ, fZ])
      refine wpAnyH_take (i := 7) (v := ?_) rfl (by kernel_rfl) (by kernel_rfl) (by kernel_rfl) (fun _ _ _ h => h) (Or.inl ⟨by rfl, ?_⟩) hHeld ?_
      rotate_left
      · (intro w hSw; (try dsimp only at hSw); go_simp; try (with_reducible rfl))
      (try simp only [Act.put, aZ, bZ, cZ, dZ, eZ, fZ])
      refine wpAnyH_take (i := 8) (v := ?_) rfl (by kernel_rfl) (by kernel_rfl) (by kernel_rfl) (fun _ _ _ h => h) (Or.inl ⟨by rfl, ?_⟩) hHeld ?_
      rotate_left
      · (intro w hSw; (try dsimp only at hSw); go_simp; try (with_reducible rfl))
      (try simp only [Act.put, aZ, bZ, cZ, dZ, eZ, fZ])
      have pr4 := pr3.drew.below hb4
      have k1 := pr4.cell (o := 1) (by omega)
      have f1 := pr4.free (o := 1) (by omega)
      have hp4 := pr4.lt
      refine wpAnyH_ready (rs := [9]) (by kernel_rfl) (by simp) ?_
      refine AllReadyH.cons (o := _) rfl (fun K hK => ?_) AllReadyH.nil
      go_simp
      skip
      refine hK.out _ _ ?_ (fun hHeld2 => ?_)
      · exact ⟨hHeld.1.set h hp2 hbp 1 _, (World.cell?_setCell_other _ _ _ _ (by simp)).trans hHeld.2⟩
      clear hK K hHeld
      have hHeld := hHeld2
      clear hHeld2
      (try simp only [Act.put, aZ, bZ, cZ, dZ, eZ, fZ])
      refine wpAnyH_done (by kernel_rfl) ?_ _
      have pr5 : RowAt (w5.setCell ⟨p, 1, none⟩ (.int .i64 y)) p 13 (ucf ⟨u.dr, y, u.sw, u.sc, u.sr, u.k, u.tr, u.id, u.pa, u.s, u.st, u.en, u.lv⟩) := (pr4.set (o := 1) (by omega) _).same (ucf_same rfl rfl rfl rfl rfl rfl rfl rfl rfl rfl rfl rfl rfl)
      generalize w5.setCell ⟨p, 1, none⟩ (.int .i64 y) = w6 at hHeld pr5 ⊢
      obtain ⟨hA5, k0⟩ := hHeld
      clear pr3 pr4 k1 f1 hp4 hp3 hy hb4 mv4 own4 hA3
      go_wp2_with fail
      go_cut [5, 7, 8] (fun v5 v7 v8 wc => v5 = .slice bv us.length c ∧ v7 = .int .i64 z ∧ v8 = .pointer (some ⟨p, 0, none⟩) ∧ AllR w wc g av len cap bv c us ∧ RowAt wc p 13 (ucf ⟨u.dr, y, u.sw, u.sc, u.sr, u.k, u.tr, u.id, u.pa, u.s, u.st, u.en, u.lv⟩))
      case first =>
        obtain ⟨l, rl⟩ := hA5.row
        have j0 : (0 : Int) ≤ u.dr := by omega
        have j1 : u.dr < (4 : Int) := by omega
        have j2 : u.dr.toNat < 4 := by omega
        have kd := rl.cell (o := u.dr.toNat) (by omega)
        have fd := rl.free (o := u.dr.toNat) (by omega)
        have rll := rl.lt
        have hp5 := pr5.lt
        refine wp_region_held_drew (S := fun w' => AllR w w' g av len cap bv c us ∧ w'.cell? ⟨p, 0, none⟩ = some (.int .i64 u.dr)) (by kernel_rfl) ?_ (fun hHeld => ?_)
        · exact ⟨hA5.below hg (Below.refl _ _).drew, k0⟩
        refine wpAnyH_take (i := 0) (v := ?_) rfl (by kernel_rfl) (by kernel_rfl) (by kernel_rfl) (fun _ _ _ h => h) (Or.inl ⟨by rfl, ?_⟩) hHeld ?_
        rotate_left
        · (intro w hSw; (try dsimp only at hSw); go_simp; try (with_reducible rfl))
        (try simp only [Act.put, aZ, bZ, cZ, dZ, eZ, fZ])
        refine wpAnyH_take (i := 1) (v := ?_) rfl (by kernel_rfl) (by kernel_rfl) (by kernel_rfl) (fun _ _ _ h => h) (Or.inl ⟨by rfl, ?_⟩) hHeld ?_
        rotate_left
        · (intro w hSw; (try dsimp only at hSw); go_simp; try (with_reducible rfl))
        (try simp only [Act.put, aZ, bZ, cZ, dZ, eZ, fZ])
        refine wpAnyH_take (i := 2) (v := ?_) rfl (by kernel_rfl) (by kernel_rfl) (by kernel_rfl) (fun _ _ _ h => h) (Or.inl ⟨by rfl, ?_⟩) hHeld ?_
        rotate_left
        · (intro w hSw; (try dsimp only at hSw); go_simp; try (with_reducible rfl))
        (try simp only [Act.put, aZ, bZ, cZ, dZ, eZ, fZ])
        refine wpAnyH_take (i := 3) (v := .int .i64 u.dr) rfl (by kernel_rfl) (by kernel_rfl) (by kernel_rfl) (fun _ _ _ h => h) (Or.inl ⟨by rfl, ?_⟩) hHeld ?_
        · (intro w hSw; (try dsimp only at hSw); go_simp; (try rw [hSw.2]))
        (try simp only [Act.put, aZ, bZ, cZ, dZ, eZ, fZ])
        refine wpAnyH_take (i := 4) (v := ?_) rfl (by kernel_rfl) (by kernel_rfl) (by kernel_rfl) (fun _ _ _ h => h) (Or.inl ⟨by rfl, ?_⟩) hHeld ?_
        rotate_left
        · (intro w hSw; (try dsimp only at hSw); go_simp; try (with_reducible rfl))
        (try simp only [Act.put, aZ, bZ, cZ, dZ, eZ, fZ])
        refine wpAnyH_take (i := 5) (v := ?_) rfl (by kernel_rfl) (by kernel_rfl) (by kernel_rfl) (fun _ _ _ h => h) (Or.inl ⟨by rfl, ?_⟩) hHeld ?_
        rotate_left
        · (intro w hSw; (try dsimp only at hSw); go_simp; try (with_reducible rfl))
        (try simp only [Act.put, aZ, bZ, cZ, dZ, eZ, fZ])
        refine wpAnyH_take (i := 6) (v := ?_) rfl (by kernel_rfl) (by kernel_rfl) (by kernel_rfl) (fun _ _ _ h => h) (Or.inl ⟨by rfl, ?_⟩) hHeld ?_
        rotate_left
        · (intro w hSw; (try dsimp only at hSw); go_simp; try (with_reducible rfl))
        (try simp only [Act.put, aZ, bZ, cZ, dZ, eZ, fZ])
        refine wpAnyH_take (i := 7) (v := .int .i64 u.dr) rfl (by kernel_rfl) (by kernel_rfl) (by kernel_rfl) (fun _ _ _ h => h) (Or.inl ⟨by rfl, ?_⟩) hHeld ?_
        · (intro w hSw; (try dsimp only at hSw); go_simp; (try rw [hSw.2]))
        (try simp only [Act.put, aZ, bZ, cZ, dZ, eZ, fZ])
        refine wpAnyH_take (i := 8) (v := .pointer (some ⟨w.heap.size + 1, u.dr.toNat, none⟩)) rfl (by kernel_rfl) (by kernel_rfl) (by kernel_rfl) (fun _ _ _ h => h) (Or.inl ⟨by rfl, ?_⟩) hHeld ?_
        · (intro w hSw; (try dsimp only at hSw); go_simp; skip)
        (try simp only [Act.put, aZ, bZ, cZ, dZ, eZ, fZ])
        refine wpAnyH_take (i := 10) (v := ?_) rfl (by kernel_rfl) (by kernel_rfl) (by kernel_rfl) (fun _ _ _ h => h) (Or.inl ⟨by rfl, ?_⟩) hHeld ?_
        rotate_left
        · (intro w hSw; (try dsimp only at hSw); go_simp; try (with_reducible rfl))
        (try simp only [Act.put, aZ, bZ, cZ, dZ, eZ, fZ])
        refine wpAnyH_ready (rs := [9, 11]) (by kernel_rfl) (by simp) ?_
        refine AllReadyH.cons (o := _) rfl (fun K hK => ?_) (AllReadyH.cons (o := _) rfl (fun K hK => ?_) AllReadyH.nil)
        · go_simp
          refine hK.out _ _ hHeld (fun hHeld2 => ?_)
          clear hK K hHeld
          have hHeld := hHeld2
          clear hHeld2
          (try simp only [Act.put, aZ, bZ, cZ, dZ, eZ, fZ])
          refine wpAnyH_ready (rs := [11]) (by kernel_rfl) (by simp) ?_
          refine AllReadyH.cons (o := _) rfl (fun K hK => ?_) AllReadyH.nil
          go_simp
          (refine (below_any _ _ _ _ _ _ hHeld.1.rd (by omega) (by omega)).mono ?_; rintro e w8 ⟨x8, rfl, x80, x81, hR8, hG8⟩; go_wp2_with fail)
          refine hK.out _ _ ?_ (fun hHeld2 => ?_)
          · exact ⟨hHeld.1.grow hg hR8 hG8, (gr_cell hG8 (by show p < w6.heap.size; omega) (by omega) 0).trans hHeld.2⟩
          clear hK K hHeld
          have hHeld := hHeld2
          clear hHeld2
          (try simp only [Act.put, aZ, bZ, cZ, dZ, eZ, fZ])
          have fd8 := (rl.drew.gr hG8 (by omega)).free (o := u.dr.toNat) (by omega)
          have kd8 := (rl.drew.gr hG8 (by omega)).cell (o := u.dr.toNat) (by omega)
          have rl8 := (rl.drew.gr hG8 (by omega)).lt
          refine wpAnyH_take (i := 12) (v := .int .i64 (1 + x8)) rfl (by kernel_rfl) (by kernel_rfl) (by kernel_rfl) (fun _ _ _ h => h) (Or.inl ⟨by rfl, ?_⟩) hHeld ?_
          · (intro w hSw; (try dsimp only at hSw); go_simp; (try exact IntWalk.i64_in _ (by omega)))
          (try simp only [Act.put, aZ, bZ, cZ, dZ, eZ, fZ])
          refine wpAnyH_take (i := 13) (v := .int .i64 (IntKind.i64.wrap (l u.dr.toNat + (1 + x8)))) rfl (by kernel_rfl) (by kernel_rfl) (by kernel_rfl) (fun _ _ _ h => h) (Or.inl ⟨by rfl, ?_⟩) hHeld ?_
          · (intro w hSw; (try dsimp only at hSw); go_simp; skip)
          (try simp only [Act.put, aZ, bZ, cZ, dZ, eZ, fZ])
          refine wpAnyH_take (i := 14) (v := .pointer (some ⟨w.heap.size + 1, u.dr.toNat, none⟩)) rfl (by kernel_rfl) (by kernel_rfl) (by kernel_rfl) (fun _ _ _ h => h) (Or.inl ⟨by rfl, ?_⟩) hHeld ?_
          · (intro w hSw; (try dsimp only at hSw); go_simp; skip)
          (try simp only [Act.put, aZ, bZ, cZ, dZ, eZ, fZ])
          refine wpAnyH_ready (rs := [15]) (by kernel_rfl) (by simp) ?_
          refine AllReadyH.cons (o := _) rfl (fun K hK => ?_) AllReadyH.nil
          go_simp
          skip
          refine hK.out _ _ ?_ (fun hHeld2 => ?_)
          · exact ⟨hHeld.1.setRow h (by omega) _, (World.cell?_setCell_other _ _ _ _ (by simp <;> omega)).trans hHeld.2⟩
          clear hK K hHeld
          have hHeld := hHeld2
          clear hHeld2
          (try simp only [Act.put, aZ, bZ, cZ, dZ, eZ, fZ])
          refine wpAnyH_done (by kernel_rfl) ?_ _
          go_wp2_with fail
          go_meet
          exact ⟨rfl, rfl, rfl, hHeld.1, (pr5.drew.gr hG8 (by omega)).far (by simp <;> omega) _⟩
        · go_simp
          refine (below_any _ _ _ _ _ _ hHeld.1.rd (by omega) (by omega)).mono ?_
          rintro e w8 ⟨x8, rfl, x80, x81, hR8, hG8⟩
          go_wp2_with fail
          refine hK.out _ _ ⟨hHeld.1.grow hg hR8 hG8, (gr_cell hG8 (by show p < w6.heap.size; omega) (by omega) 0).trans hHeld.2⟩ (fun hHeld2 => ?_)
          clear hK K hHeld
          have hHeld := hHeld2
          clear hHeld2
          (try simp only [Act.put, aZ, bZ, cZ, dZ, eZ, fZ])
          have fd8 := (rl.drew.gr hG8 (by omega)).free (o := u.dr.toNat) (by omega)
          have kd8 := (rl.drew.gr hG8 (by omega)).cell (o := u.dr.toNat) (by omega)
          have rl8 := (rl.drew.gr hG8 (by omega)).lt
          refine wpAnyH_take (i := 12) (v := .int .i64 (1 + x8)) rfl (by kernel_rfl) (by kernel_rfl) (by kernel_rfl) (fun _ _ _ h => h) (Or.inl ⟨by rfl, ?_⟩) hHeld ?_
          · (intro w hSw; (try dsimp only at hSw); go_simp; (try exact IntWalk.i64_in _ (by omega)))
          (try simp only [Act.put, aZ, bZ, cZ, dZ, eZ, fZ])
          refine wpAnyH_ready (rs := [9]) (by kernel_rfl) (by simp) ?_
          refine AllReadyH.cons (o := _) rfl (fun K hK => ?_) AllReadyH.nil
          go_simp
          skip
          refine hK.out _ _ ?_ (fun hHeld2 => ?_)
          · exact hHeld
          clear hK K hHeld
          have hHeld := hHeld2
          clear hHeld2
          (try simp only [Act.put, aZ, bZ, cZ, dZ, eZ, fZ])
          refine wpAnyH_take (i := 13) (v := .int .i64 (IntKind.i64.wrap (l u.dr.toNat + (1 + x8)))) rfl (by kernel_rfl) (by kernel_rfl) (by kernel_rfl) (fun _ _ _ h => h) (Or.inl ⟨by rfl, ?_⟩) hHeld ?_
          · (intro w hSw; (try dsimp only at hSw); go_simp; skip)
          (try simp only [Act.put, aZ, bZ, cZ, dZ, eZ, fZ])
          refine wpAnyH_take (i := 14) (v := .pointer (some ⟨w.heap.size + 1, u.dr.toNat, none⟩)) rfl (by kernel_rfl) (by kernel_rfl) (by kernel_rfl) (fun _ _ _ h => h) (Or.inl ⟨by rfl, ?_⟩) hHeld ?_
          · (intro w hSw; (try dsimp only at hSw); go_simp; skip)
          (try simp only [Act.put, aZ, bZ, cZ, dZ, eZ, fZ])
          refine wpAnyH_ready (rs := [15]) (by kernel_rfl) (by simp) ?_
          refine AllReadyH.cons (o := _) rfl (fun K hK => ?_) AllReadyH.nil
          go_simp
          skip
          refine hK.out _ _ ?_ (fun hHeld2 => ?_)
          · exact ⟨hHeld.1.setRow h (by omega) _, (World.cell?_setCell_other _ _ _ _ (by simp <;> omega)).trans hHeld.2⟩
          clear hK K hHeld
          have hHeld := hHeld2
          clear hHeld2
          (try simp only [Act.put, aZ, bZ, cZ, dZ, eZ, fZ])
          refine wpAnyH_done (by kernel_rfl) ?_ _
          go_wp2_with fail
          go_meet
          exact ⟨rfl, rfl, rfl, hHeld.1, (pr5.drew.gr hG8 (by omega)).far (by simp <;> omega) _⟩
      case rest =>
        obtain ⟨rfl, rfl, rfl, hA6, pr6⟩ := hcut
        clear hA5 k0 pr5
        obtain ⟨l, rl⟩ := hA6.row
        have j0 : (0 : Int) ≤ u.dr := by omega
        have j1 : u.dr < (4 : Int) := by omega
        have j2 : u.dr.toNat < 4 := by omega
        have kd := rl.cell (o := u.dr.toNat) (by omega)
        have rll := rl.lt
        have hp6 := pr6.lt
        have k0 := pr6.cell (o := 0) (by omega)
        simp [ucf, ucs] at k0
        go_wp2_with fail
        refine wp_region_held_drew (S := fun w' => AllR w w' g av len cap bv c us ∧ w'.cell? ⟨p, 0, none⟩ = some (.int .i64 u.dr) ∧ w'.cell? ⟨w.heap.size + 1, u.dr.toNat, none⟩ = some (.int .i64 (l u.dr.toNat))) (by kernel_rfl) ?_ (fun hHeld => ?_)
        · exact ⟨hA6.below hg (Below.refl _ _).drew, k0, kd⟩
        refine wpAnyH_take (i := 0) (v := ?_) rfl (by kernel_rfl) (by kernel_rfl) (by kernel_rfl) (fun _ _ _ h => h) (Or.inl ⟨by rfl, ?_⟩) hHeld ?_
        rotate_left
        · (intro w hSw; (try dsimp only at hSw); go_simp; try (with_reducible rfl))
        (try simp only [Act.put, aZ, bZ, cZ, dZ, eZ, fZ])
        refine wpAnyH_take (i := 1) (v := ?_) rfl (by kernel_rfl) (by kernel_rfl) (by kernel_rfl) (fun _ _ _ h => h) (Or.inl ⟨by rfl, ?_⟩) hHeld ?_
        rotate_left
        · (intro w hSw; (try dsimp only at hSw); go_simp; try (with_reducible rfl))
        (try simp only [Act.put, aZ, bZ, cZ, dZ, eZ, fZ])
        refine wpAnyH_take (i := 2) (v := ?_) rfl (by kernel_rfl) (by kernel_rfl) (by kernel_rfl) (fun _ _ _ h => h) (Or.inl ⟨by rfl, ?_⟩) hHeld ?_
        rotate_left
        · (intro w hSw; (try dsimp only at hSw); go_simp; try (with_reducible rfl))
        (try simp only [Act.put, aZ, bZ, cZ, dZ, eZ, fZ])
        refine wpAnyH_take (i := 3) (v := .int .i64 u.dr) rfl (by kernel_rfl) (by kernel_rfl) (by kernel_rfl) (fun _ _ _ h => h) (Or.inl ⟨by rfl, ?_⟩) hHeld ?_
        · (intro w hSw; (try dsimp only at hSw); go_simp; (try rw [hSw.2.1]))
        (try simp only [Act.put, aZ, bZ, cZ, dZ, eZ, fZ])
        refine wpAnyH_take (i := 4) (v := .pointer (some ⟨w.heap.size + 1, u.dr.toNat, none⟩)) rfl (by kernel_rfl) (by kernel_rfl) (by kernel_rfl) (fun _ _ _ h => h) (Or.inl ⟨by rfl, ?_⟩) hHeld ?_
        · (intro w hSw; (try dsimp only at hSw); go_simp; skip)
        (try simp only [Act.put, aZ, bZ, cZ, dZ, eZ, fZ])
        refine wpAnyH_take (i := 5) (v := .int .i64 (l u.dr.toNat)) rfl (by kernel_rfl) (by kernel_rfl) (by kernel_rfl) (fun _ _ _ h => h) (Or.inl ⟨by rfl, ?_⟩) hHeld ?_
        · (intro w hSw; (try dsimp only at hSw); go_simp; (try rw [hSw.2.2]))
        (try simp only [Act.put, aZ, bZ, cZ, dZ, eZ, fZ])
        refine wpAnyH_take (i := 6) (v := ?_) rfl (by kernel_rfl) (by kernel_rfl) (by kernel_rfl) (fun _ _ _ h => h) (Or.inl ⟨by rfl, ?_⟩) hHeld ?_
        rotate_left
        · (intro w hSw; (try dsimp only at hSw); go_simp; try (with_reducible rfl))
        (try simp only [Act.put, aZ, bZ, cZ, dZ, eZ, fZ])
        refine wpAnyH_take (i := 8) (v := ?_) rfl (by kernel_rfl) (by kernel_rfl) (by kernel_rfl) (fun _ _ _ h => h) (Or.inl ⟨by rfl, ?_⟩) hHeld ?_
        rotate_left
        · (intro w hSw; (try dsimp only at hSw); go_simp; try (with_reducible rfl))
        (try simp only [Act.put, aZ, bZ, cZ, dZ, eZ, fZ])
        refine wpAnyH_take (i := 9) (v := ?_) rfl (by kernel_rfl) (by kernel_rfl) (by kernel_rfl) (fun _ _ _ h => h) (Or.inl ⟨by rfl, ?_⟩) hHeld ?_
        rotate_left
        · (intro w hSw; (try dsimp only at hSw); go_simp; try (with_reducible rfl))
        (try simp only [Act.put, aZ, bZ, cZ, dZ, eZ, fZ])
        refine wpAnyH_take (i := 10) (v := .int .i64 u.dr) rfl (by kernel_rfl) (by kernel_rfl) (by kernel_rfl) (fun _ _ _ h => h) (Or.inl ⟨by rfl, ?_⟩) hHeld ?_
        · (intro w hSw; (try dsimp only at hSw); go_simp; (try rw [hSw.2.1]))
        (try simp only [Act.put, aZ, bZ, cZ, dZ, eZ, fZ])
        refine wpAnyH_ready (rs := [7]) (by kernel_rfl) (by simp) ?_
        refine AllReadyH.cons (o := _) rfl (fun K hK => ?_) AllReadyH.nil
        go_simp
        (refine (below_any _ _ _ _ _ _ hHeld.1.rd (by omega) (by omega)).mono ?_; rintro e w8 ⟨x8, rfl, x80, x81, hR8, hG8⟩; go_wp2_with fail)
        refine hK.out _ _ ?_ (fun hHeld2 => ?_)
        · exact ⟨hHeld.1.grow hg hR8 hG8, (gr_cell hG8 (by show p < wc.heap.size; omega) (by omega) 0).trans hHeld.2.1, (gr_cell hG8 (by show w.heap.size + 1 < wc.heap.size; omega) (by omega) _).trans hHeld.2.2⟩
        clear hK K hHeld
        have hHeld := hHeld2
        clear hHeld2
        (try simp only [Act.put, aZ, bZ, cZ, dZ, eZ, fZ])
        refine wpAnyH_take (i := 11) (v := .agg #[.int .i64 (l u.dr.toNat), .int .i64 x8, .int .i64 u.dr]) rfl (by kernel_rfl) (by kernel_rfl) (by kernel_rfl) (fun _ _ _ h => h) (Or.inl ⟨by rfl, ?_⟩) hHeld ?_
        · (intro w hSw; (try dsimp only at hSw); go_simp; skip)
        (try simp only [Act.put, aZ, bZ, cZ, dZ, eZ, fZ])
        refine wpAnyH_take (i := 12) (v := ?_) rfl (by kernel_rfl) (by kernel_rfl) (by kernel_rfl) (fun _ _ _ h => h) (Or.inl ⟨by rfl, ?_⟩) hHeld ?_
        rotate_left
        · (intro w hSw; (try dsimp only at hSw); go_simp; try (with_reducible rfl))
        (try simp only [Act.put, aZ, bZ, cZ, dZ, eZ, fZ])
        have pr7 := pr6.drew.gr hG8 (by omega)
        have hp7 := pr7.lt
        have k2 := pr7.cell (o := 2) (by omega)
        have k3 := pr7.cell (o := 3) (by omega)
        have k4 := pr7.cell (o := 4) (by omega)
        have f2 := pr7.free (o := 2) (by omega)
        have f3 := pr7.free (o := 3) (by omega)
        have f4 := pr7.free (o := 4) (by omega)
        refine wpAnyH_ready (rs := [13]) (by kernel_rfl) (by simp) ?_
        refine AllReadyH.cons (o := _) rfl (fun K hK => ?_) AllReadyH.nil
        go_simp
        skip
        refine hK.out _ _ ?_ (fun hHeld2 => ?_)
        · exact ⟨((hHeld.1.set h hp2 hbp 2 _).set h hp2 hbp 3 _).set h hp2 hbp 4 _, (World.cell?_setCell_other _ _ _ _ (by simp)).trans ((World.cell?_setCell_other _ _ _ _ (by simp)).trans ((World.cell?_setCell_other _ _ _ _ (by simp)).trans hHeld.2.1)), (World.cell?_setCell_other _ _ _ _ (by simp <;> omega)).trans ((World.cell?_setCell_other _ _ _ _ (by simp <;> omega)).trans ((World.cell?_setCell_other _ _ _ _ (by simp <;> omega)).trans hHeld.2.2))⟩
        clear hK K hHeld
        have hHeld := hHeld2
        clear hHeld2
        (try simp only [Act.put, aZ, bZ, cZ, dZ, eZ, fZ])
        refine wpAnyH_done (by kernel_rfl) ?_ _
        have pr8 : RowAt (((w8.setCell ⟨p, 2, none⟩ (.int .i64 (l u.dr.toNat))).setCell ⟨p, 3, none⟩ (.int .i64 x8)).setCell ⟨p, 4, none⟩ (.int .i64 u.dr)) p 13 (ucf ⟨u.dr, y, (l u.dr.toNat), x8, u.dr, u.k, u.tr, u.id, u.pa, u.s, u.st, u.en, u.lv⟩) := (((pr7.set (o := 2) (by omega) _).set (o := 3) (by omega) _).set (o := 4) (by omega) _).same (ucf_same rfl rfl rfl rfl rfl rfl rfl rfl rfl rfl rfl rfl rfl)
        generalize ((w8.setCell ⟨p, 2, none⟩ (.int .i64 (l u.dr.toNat))).setCell ⟨p, 3, none⟩ (.int .i64 x8)).setCell ⟨p, 4, none⟩ (.int .i64 u.dr) = w9 at hHeld pr8 ⊢
        obtain ⟨hA9, _, _⟩ := hHeld
        clear k2 k3 k4 f2 f3 f4 pr6 pr7 hp7 kd rll k0 hA6 hp6 rl hR8 hG8
        obtain ⟨sw, hsw⟩ : ∃ sw, sw = l u.dr.toNat := ⟨_, rfl⟩
        rw [← hsw] at pr8
        clear hsw
        have hp9 := pr8.lt
        have m0 := pr8.cell (o := 0) (by omega)
        have m1 := pr8.cell (o := 1) (by omega)
        have m2 := pr8.cell (o := 2) (by omega)
        have m3 := pr8.cell (o := 3) (by omega)
        have m4 := pr8.cell (o := 4) (by omega)
        have m5 := pr8.cell (o := 5) (by omega)
        have m6 := pr8.cell (o := 6) (by omega)
        have m7 := pr8.cell (o := 7) (by omega)
        have m8 := pr8.cell (o := 8) (by omega)
        have m9 := pr8.cell (o := 9) (by omega)
        have m10 := pr8.cell (o := 10) (by omega)
        have m11 := pr8.cell (o := 11) (by omega)
        have m12 := pr8.cell (o := 12) (by omega)
        simp [ucf, ucs] at m0 m1 m2 m3 m4 m5 m6 m7 m8 m9 m10 m11 m12
        go_wp2_with fail
        refine (updateOk_spec _ _ _ _ _ _ _ _ _ _ _ _ _ _ (by unfold maxLen; omega)).mono ?_
        rintro e w10 ⟨rfl, hb10⟩
        have hA10 := hA9.below hg hb10
        have pr10 := pr8.below hb10
        clear m0 m1 m2 m3 m4 m5 m6 m7 m8 m9 m10 m11 m12
        generalize M1.updB u.dr y sw x8 u.dr u.k u.tr u.id u.pa u.s u.st u.en u.lv = okb
        cases okb with
        | false =>
          go_wp2_with fail
          exact ⟨⟨z - 1, bv, c, us, by omega, by go_num, rfl, by omega, hA10⟩, by simp [intOf]; omega⟩
        | true =>
          have hp10 := pr10.lt
          have m0 := pr10.cell (o := 0) (by omega)
          have m1 := pr10.cell (o := 1) (by omega)
          have m2 := pr10.cell (o := 2) (by omega)
          have m3 := pr10.cell (o := 3) (by omega)
          have m4 := pr10.cell (o := 4) (by omega)
          have m5 := pr10.cell (o := 5) (by omega)
          have m6 := pr10.cell (o := 6) (by omega)
          have m7 := pr10.cell (o := 7) (by omega)
          have m8 := pr10.cell (o := 8) (by omega)
          have m9 := pr10.cell (o := 9) (by omega)
          have m10 := pr10.cell (o := 10) (by omega)
          have m11 := pr10.cell (o := 11) (by omega)
          have m12 := pr10.cell (o := 12) (by omega)
          simp [ucf, ucs] at m0 m1 m2 m3 m4 m5 m6 m7 m8 m9 m10 m11 m12
          go_wp2_with fail
          refine (l3Put_any _ _ _ us ⟨u.dr, y, sw, x8, u.dr, u.k, u.tr, u.id, u.pa, u.s, u.st, u.en, u.lv⟩ _ hA10.upds (by omega)).mono ?_
          rintro e w11 ⟨⟨v11, ns, rfl, hput, own11⟩, hb11⟩
          obtain ⟨nv, nc, rfl, mu11⟩ := MU.of_owns own11
          have hA11 := hA10.below hg hb11
          have hsz10 := hA10.sz
          have hpl := hput.len
          clear m0 m1 m2 m3 m4 m5 m6 m7 m8 m9 m10 m11 m12
          go_wp2_with fail
          refine ⟨⟨z - 1, nv, nc, ns, by omega, by go_num, rfl, by omega, ⟨mu11.wide (by omega) (Nat.le_refl _), owns_lower own11 (by omega), fun q e => ?_, hA11.sh.put (by show u.s.size ≤ 1000; omega) hput, hA11.r3.put (by exact ⟨hu1, hu3⟩) hput, hA11.row, hA11.rd, hA11.gr, hA11.sz⟩⟩, by simp [intOf]; omega⟩
          rcases mu11.2.2 with ⟨_, e2⟩ | ⟨kk, e2, h1, _, _⟩
          · rw [e] at e2; cases e2
          · rw [e] at e2; injection e2 with e2; rw [e2]; show ¬ kk = w.heap.size + 1; omega
    · go_wp2_with fail
      go_ret
      exact ⟨bv, c, us, rfl, by omega, hA.sh, hA.r3, hA.mu, hA.own, hA.rd, hA.gr⟩

theorem all_any (g : Nat) (av : Option Addr) (len cap : Nat) (most : Int) (w : World) (h : Rdr w g av len cap) (hm0 : 0 ≤ most) (hm1 : most ≤ 1000) :
    Calls Tryz.prog 23 #[.pointer (some ⟨g, 0, none⟩), .int .i64 most] w fun e w' => ∃ (bv : Option Addr) (c : Nat) (us : List M1.Upd), e = .returned (.slice bv us.length c) ∧ (us.length : Int) ≤ most ∧ Short us ∧ R3 us ∧ MU w' bv us.length c w.heap.size w'.heap.size (ucell us) ∧ Rdr w' g av len cap ∧ Gr g w w' :=
  (all_own g av len cap most w h hm0 hm1).mono fun _ _ ⟨bv, c, us, h1, h2, h3, h4, h5, _, h6, h7⟩ => ⟨bv, c, us, h1, h2, h3, h4, h5, h6, h7⟩
end Go.Proofs.YtbhidjagmonnaaaGreatDoor
