/-
  The contract of the reader's spans: a list of updates of few elements, with short texts.
-/
import Derived.Test.YtdpeopmbboogaaaZLongest19
namespace Go.Proofs.Ytdpeopmbboogaaa
open Go.ChangeShapes Go.WideShapes Go.ChangeAt Go.RowKit
set_option linter.unusedSimpArgs false
set_option linter.unusedVariables false

/-- What a round of 'spans' holds: the list so far, the reader. -/
structure SpR (w wr : World) (g : Nat) (av : Option Addr) (len cap : Nat) (bv : Option Addr) (c : Nat) (us : List M1.Upd) : Prop where
  mu : MU wr bv us.length c w.heap.size wr.heap.size (ucell us)
  sh : Short us
  rd : Rdr wr g av len cap
  gr : Gr g w wr
theorem SpR.grow {w wr w' : World} {g : Nat} {av : Option Addr} {len cap : Nat} {bv : Option Addr} {c : Nat} {us : List M1.Upd} (h : SpR w wr g av len cap bv c us) (hg : g < w.heap.size) (hR : Rdr w' g av len cap) (hG : Gr g wr w') : SpR w w' g av len cap bv c us :=
  ⟨(h.mu.gr hG hg).wide (Nat.le_refl _) hG.size, h.sh, hR, gr_trans h.gr hG⟩
theorem SpR.below {w wr w' : World} {g : Nat} {av : Option Addr} {len cap : Nat} {bv : Option Addr} {c : Nat} {us : List M1.Upd} (h : SpR w wr g av len cap bv c us) (hg : g < w.heap.size) (hb : Below wr.heap.size wr w') : SpR w w' g av len cap bv c us :=
  h.grow hg (h.rd.below hb) (gr_below hb)
theorem SpR.upds {w wr : World} {g : Nat} {av : Option Addr} {len cap : Nat} {bv : Option Addr} {c : Nat} {us : List M1.Upd} (h : SpR w wr g av len cap bv c us) : IsUpds wr bv us.length c us := h.mu.upds rfl h.sh.max
theorem SpR.set {w wr : World} {g : Nat} {av : Option Addr} {len cap : Nat} {bv : Option Addr} {c : Nat} {us : List M1.Upd} (h : SpR w wr g av len cap bv c us) (h0 : Rdr w g av len cap) {p : Nat} (hp : w.heap.size ≤ p) (hbv : ∀ q, bv = some q → ¬ q.block = p) (o : Nat) (v : Value) : SpR w (wr.setCell ⟨p, o, none⟩ v) g av len cap bv c us :=
  ⟨by have := h.mu.far (p := ⟨p, o, none⟩) hbv v; simpa [World.setCell] using this, h.sh, h.rd.far (by have := h0.lt; show p ≠ g; omega) (h0.old (by show _ ≤ p; omega)) _, gr_new h.gr _ (by show _ ≤ p; omega) _⟩
theorem SpR.lt {w wr : World} {g : Nat} {av : Option Addr} {len cap : Nat} {bv : Option Addr} {c : Nat} {us : List M1.Upd} (h : SpR w wr g av len cap bv c us) : ∀ q, bv = some q → q.block < wr.heap.size := fun q e => by
  rcases h.mu.2.2 with ⟨_, e2⟩ | ⟨k, e2, _, h2, _⟩
  · rw [e] at e2; cases e2
  · rw [e] at e2; injection e2 with e2; rw [e2]; exact h2

set_option maxHeartbeats 16000000 in
set_option maxRecDepth 100000 in
theorem spans_any (g : Nat) (av : Option Addr) (len cap : Nat) (most : Int) (w : World) (h : Rdr w g av len cap) (hm0 : 0 ≤ most) (hm1 : most ≤ 1000) :
    Calls Try.prog 53 #[.pointer (some ⟨g, 0, none⟩), .int .i64 most] w fun e w' => ∃ (bv : Option Addr) (c : Nat) (us : List M1.Upd), e = .returned (.slice bv us.length c) ∧ (us.length : Int) ≤ most ∧ Short us ∧ MU w' bv us.length c w.heap.size w'.heap.size (ucell us) ∧ Rdr w' g av len cap ∧ Gr g w w' := by
  have hg := h.lt
  go_enter Try.func53, Try.ntmps53
  go_wp2_with fail
  obtain ⟨W0, hW0⟩ : ∃ W, W = (w.alloc (.cells #[] 63)) := ⟨_, rfl⟩
  have hA0 : SpR w W0 g av len cap (some ⟨w.heap.size, 0, none⟩) 0 [] := by
    rw [hW0]
    exact ⟨⟨Nat.le_refl _, Nat.zero_le _, Or.inr ⟨_, rfl, Nat.le_refl _, by simp, ⟨by simp, fun o ho => absurd ho (by simp)⟩⟩⟩, fun x hx => absurd hx (by simp), h.below ((Below.refl _ _).alloc (Nat.le_refl _) _), gr_alloc (gr_refl _ _) _⟩
  rw [← hW0]
  clear hW0
  refine (below_any _ _ _ _ _ _ hA0.rd (by omega) (by omega)).mono ?_
  rintro e w1 ⟨x, rfl, x0, x1, hR1, hG1⟩
  have hA1 := hA0.grow hg hR1 hG1
  go_wp2_with fail
  go_loopw [5, 6] (fun v i wr => ∃ (z : Int) (bv : Option Addr) (c : Nat) (us : List M1.Upd), 0 ≤ z ∧ i = .int .i64 z ∧ v = .slice bv us.length c ∧ (us.length : Int) + z ≤ most ∧ SpR w wr g av len cap bv c us) (fun _ i _ => (intOf i).toNat)
  case atStart => exact ⟨x, _, _, [], x0, rfl, rfl, by simp; omega, hA1⟩
  case round =>
    clear hA0 hA1 hR1 hG1
    obtain ⟨z, bv, c, us, hz0, rfl, rfl, hzl, hA⟩ := hrel
    by_cases hlt : 0 < z
    · go_wp2_with fail
      refine (below_any _ _ _ _ _ _ hA.rd (by omega) (by omega)).mono ?_
      rintro e w2 ⟨r, rfl, r0, r1, hR2, hG2⟩
      have hA2 := hA.grow hg hR2 hG2
      clear hA hR2 hG2
      go_wp2_with fail
      refine (l3Vector_gen _ _ _ _ _ hA2.upds (by omega)).mono ?_
      rintro e w3 ⟨⟨v3, rfl, own3⟩, hb3⟩
      obtain ⟨dv, dc, rfl, mv3⟩ := MV.of_owns own3
      have hA3 := hA2.below hg hb3
      go_wp2_with fail
      refine (l1Of_gen _ _ _ _ _ _ (mv3.vec rfl)).mono ?_
      rintro e w4 ⟨rfl, rfl⟩
      clear own3 hb3 mv3 hA2
      go_wp2_with fail
      generalize wrap64 (M1.fm (M1.l3v us) (1 + r) + 1) = y
      refine (span_any _ _ _ _ _ hA3.rd).mono ?_
      rintro e w5 ⟨id, pa, s, st, en, rfl, hs4, hR5, hG5⟩
      have hA5 := hA3.grow hg hR5 hG5
      clear hA3 hR5 hG5
      go_wp2_with fail
      obtain ⟨w6, hw6⟩ : ∃ W, W = (w5.alloc (.cells #[.int .i64 (1 + r), .int .i64 y, .int .i64 0, .int .i64 0, .int .i64 0, .int .i64 1, .int .i64 1, .int .i64 id, .int .i64 pa, .string s, .int .i64 st, .int .i64 en, .int .i64 0] 63)) := ⟨_, rfl⟩
      have pr6 : RowAt w6 w5.heap.size 13 (ucf ⟨1 + r, y, 0, 0, 0, 1, 1, id, pa, s, st, en, 0⟩) := by rw [hw6]; exact rowU w5 ⟨1 + r, y, 0, 0, 0, 1, 1, id, pa, s, st, en, 0⟩ _
      have hb6 : Below w5.heap.size w5 w6 := by rw [hw6]; exact (Below.refl _ _).alloc (Nat.le_refl _) _
      have hz6 : w6.heap.size = w5.heap.size + 1 := by rw [hw6]; simp
      rw [← hw6]
      clear hw6
      have hA6 := hA5.below hg hb6
      have hbl := hA5.lt
      have hgr5 := hA5.gr.size
      obtain ⟨p, hp⟩ : ∃ p, p = w5.heap.size := ⟨_, rfl⟩
      rw [← hp] at pr6 ⊢
      have hbp : ∀ q, bv = some q → ¬ q.block = p := fun q e => by have := hbl q e; omega
      have hp2 : w.heap.size ≤ p := by omega
      have hp3 : p < w6.heap.size := by omega
      have hpg : ¬ p = g := by omega
      clear hA5 hb6 hz6 hbl hp hgr5
      refine (below_any _ _ _ _ _ _ hA6.rd (by omega) (by omega)).mono ?_
      rintro e w7 ⟨b2, rfl, b20, b21, hR7, hG7⟩
      have hA7 := hA6.grow hg hR7 hG7
      have pr7 := pr6.gr hG7 hpg
      have hp7 := pr7.lt
      have k2 := pr7.cell (o := 2) (by omega)
      have k3 := pr7.cell (o := 3) (by omega)
      have k4 := pr7.cell (o := 4) (by omega)
      have f2 := pr7.free (o := 2) (by omega)
      have f3 := pr7.free (o := 3) (by omega)
      have f4 := pr7.free (o := 4) (by omega)
      clear hA6 hR7 hG7 pr6 hp3
      go_wp2_with fail
      obtain ⟨sw, hsw⟩ : ∃ sw, wrap64 (wrap64 (2 * y) + b2) = sw := ⟨_, rfl⟩
      rw [hsw]
      have hA8 := ((hA7.set h hp2 hbp 2 (.int .i64 sw)).set h hp2 hbp 3 (.int .i64 0)).set h hp2 hbp 4 (.int .i64 (1 + r))
      have pr8 : RowAt (((w7.setCell ⟨p, 2, none⟩ (.int .i64 sw)).setCell ⟨p, 3, none⟩ (.int .i64 0)).setCell ⟨p, 4, none⟩ (.int .i64 (1 + r))) p 13 (ucf ⟨1 + r, y, sw, 0, 1 + r, 1, 1, id, pa, s, st, en, 0⟩) := (((pr7.set (o := 2) (by omega) _).set (o := 3) (by omega) _).set (o := 4) (by omega) _).same (ucf_same rfl rfl rfl rfl rfl rfl rfl rfl rfl rfl rfl rfl rfl)
      generalize ((w7.setCell ⟨p, 2, none⟩ (.int .i64 sw)).setCell ⟨p, 3, none⟩ (.int .i64 0)).setCell ⟨p, 4, none⟩ (.int .i64 (1 + r)) = w8 at hA8 pr8 ⊢
      clear k2 k3 k4 f2 f3 f4 pr7 hp7 hA7 hsw
      refine (once_any _ _ _ _ _ _ hA8.rd (by omega) (by omega)).mono ?_
      rintro e w9 ⟨o6, rfl, hR9, hG9⟩
      have hA9 := hA8.grow hg hR9 hG9
      have pr9 := pr8.gr hG9 hpg
      have hp9 := pr9.lt
      clear hA8 pr8 hR9 hG9
      cases o6 with
      | false =>
        have m0 := pr9.cell (o := 0) (by omega)
        have m1 := pr9.cell (o := 1) (by omega)
        have m2 := pr9.cell (o := 2) (by omega)
        have m3 := pr9.cell (o := 3) (by omega)
        have m4 := pr9.cell (o := 4) (by omega)
        have m5 := pr9.cell (o := 5) (by omega)
        have m6 := pr9.cell (o := 6) (by omega)
        have m7 := pr9.cell (o := 7) (by omega)
        have m8 := pr9.cell (o := 8) (by omega)
        have m9 := pr9.cell (o := 9) (by omega)
        have m10 := pr9.cell (o := 10) (by omega)
        have m11 := pr9.cell (o := 11) (by omega)
        have m12 := pr9.cell (o := 12) (by omega)
        simp [ucf, ucs] at m0 m1 m2 m3 m4 m5 m6 m7 m8 m9 m10 m11 m12
        go_wp2_with fail
        refine (updateOk_spec _ _ _ _ _ _ _ _ _ _ _ _ _ _ (by unfold maxLen; omega)).mono ?_
        rintro e w10 ⟨rfl, hb10⟩
        have hA10 := hA9.below hg hb10
        have pr10 := pr9.below hb10
        clear m0 m1 m2 m3 m4 m5 m6 m7 m8 m9 m10 m11 m12
        generalize M1.updB (1 + r) y sw 0 (1 + r) 1 1 id pa s st en 0 = okb
        cases okb with
        | false =>
          go_wp2_with fail
          exact ⟨⟨z - 1, bv, c, us, by omega, by go_num, rfl, by omega, hA10⟩, by simp [intOf]; omega⟩
        | true =>
          have hp10 := pr10.lt
          have m0 := pr10.cell (o := 0) (by omega)
          have m1 := pr10.cell (o := 1) (by omega)
          have m2 := pr10.cell (o := 2) (by omega)
          have m3 := pr10.cell (o := 3) (by omega)
          have m4 := pr10.cell (o := 4) (by omega)
          have m5 := pr10.cell (o := 5) (by omega)
          have m6 := pr10.cell (o := 6) (by omega)
          have m7 := pr10.cell (o := 7) (by omega)
          have m8 := pr10.cell (o := 8) (by omega)
          have m9 := pr10.cell (o := 9) (by omega)
          have m10 := pr10.cell (o := 10) (by omega)
          have m11 := pr10.cell (o := 11) (by omega)
          have m12 := pr10.cell (o := 12) (by omega)
          simp [ucf, ucs] at m0 m1 m2 m3 m4 m5 m6 m7 m8 m9 m10 m11 m12
          go_wp2_with fail
          refine (l3Put_any _ _ _ us ⟨1 + r, y, sw, 0, 1 + r, 1, 1, id, pa, s, st, en, 0⟩ _ hA10.upds (by omega)).mono ?_
          rintro e w11 ⟨⟨v11, ns, rfl, hput, own11⟩, hb11⟩
          obtain ⟨nv, nc, rfl, mu11⟩ := MU.of_owns own11
          have hA11 := hA10.below hg hb11
          have hsz10 := hA10.gr.size
          have hpl := hput.len
          clear m0 m1 m2 m3 m4 m5 m6 m7 m8 m9 m10 m11 m12
          go_wp2_with fail
          exact ⟨⟨z - 1, nv, nc, ns, by omega, by go_num, rfl, by omega, ⟨mu11.wide (by omega) (Nat.le_refl _), hA11.sh.put (by show s.size ≤ 1000; omega) hput, hA11.rd, hA11.gr⟩⟩, by simp [intOf]; omega⟩
      | true =>
        have k6 := pr9.cell (o := 6) (by omega)
        have f6 := pr9.free (o := 6) (by omega)
        have hAt := hA9.set h hp2 hbp 6 (.int .i64 2)
        have prt : RowAt (w9.setCell ⟨p, 6, none⟩ (.int .i64 2)) p 13 (ucf ⟨1 + r, y, sw, 0, 1 + r, 1, 2, id, pa, s, st, en, 0⟩) := (pr9.set (o := 6) (by omega) _).same (ucf_same rfl rfl rfl rfl rfl rfl rfl rfl rfl rfl rfl rfl rfl)
        have hpt := prt.lt
        have m0 := prt.cell (o := 0) (by omega)
        have m1 := prt.cell (o := 1) (by omega)
        have m2 := prt.cell (o := 2) (by omega)
        have m3 := prt.cell (o := 3) (by omega)
        have m4 := prt.cell (o := 4) (by omega)
        have m5 := prt.cell (o := 5) (by omega)
        have m6 := prt.cell (o := 6) (by omega)
        have m7 := prt.cell (o := 7) (by omega)
        have m8 := prt.cell (o := 8) (by omega)
        have m9 := prt.cell (o := 9) (by omega)
        have m10 := prt.cell (o := 10) (by omega)
        have m11 := prt.cell (o := 11) (by omega)
        have m12 := prt.cell (o := 12) (by omega)
        simp [ucf, ucs] at m0 m1 m2 m3 m4 m5 m6 m7 m8 m9 m10 m11 m12
        go_wp2_with fail
        refine (updateOk_spec _ _ _ _ _ _ _ _ _ _ _ _ _ _ (by unfold maxLen; omega)).mono ?_
        rintro e w10 ⟨rfl, hb10⟩
        have hA10 := hAt.below hg hb10
        have pr10 := prt.below hb10
        clear m0 m1 m2 m3 m4 m5 m6 m7 m8 m9 m10 m11 m12
        generalize M1.updB (1 + r) y sw 0 (1 + r) 1 2 id pa s st en 0 = okb
        cases okb with
        | false =>
          go_wp2_with fail
          exact ⟨⟨z - 1, bv, c, us, by omega, by go_num, rfl, by omega, hA10⟩, by simp [intOf]; omega⟩
        | true =>
          have hp10 := pr10.lt
          have m0 := pr10.cell (o := 0) (by omega)
          have m1 := pr10.cell (o := 1) (by omega)
          have m2 := pr10.cell (o := 2) (by omega)
          have m3 := pr10.cell (o := 3) (by omega)
          have m4 := pr10.cell (o := 4) (by omega)
          have m5 := pr10.cell (o := 5) (by omega)
          have m6 := pr10.cell (o := 6) (by omega)
          have m7 := pr10.cell (o := 7) (by omega)
          have m8 := pr10.cell (o := 8) (by omega)
          have m9 := pr10.cell (o := 9) (by omega)
          have m10 := pr10.cell (o := 10) (by omega)
          have m11 := pr10.cell (o := 11) (by omega)
          have m12 := pr10.cell (o := 12) (by omega)
          simp [ucf, ucs] at m0 m1 m2 m3 m4 m5 m6 m7 m8 m9 m10 m11 m12
          go_wp2_with fail
          refine (l3Put_any _ _ _ us ⟨1 + r, y, sw, 0, 1 + r, 1, 2, id, pa, s, st, en, 0⟩ _ hA10.upds (by omega)).mono ?_
          rintro e w11 ⟨⟨v11, ns, rfl, hput, own11⟩, hb11⟩
          obtain ⟨nv, nc, rfl, mu11⟩ := MU.of_owns own11
          have hA11 := hA10.below hg hb11
          have hsz10 := hA10.gr.size
          have hpl := hput.len
          clear m0 m1 m2 m3 m4 m5 m6 m7 m8 m9 m10 m11 m12
          go_wp2_with fail
          exact ⟨⟨z - 1, nv, nc, ns, by omega, by go_num, rfl, by omega, ⟨mu11.wide (by omega) (Nat.le_refl _), hA11.sh.put (by show s.size ≤ 1000; omega) hput, hA11.rd, hA11.gr⟩⟩, by simp [intOf]; omega⟩
    · go_wp2_with fail
      go_ret
      exact ⟨bv, c, us, rfl, by omega, hA.sh, hA.mu, hA.rd, hA.gr⟩
end Go.Proofs.Ytdpeopmbboogaaa
