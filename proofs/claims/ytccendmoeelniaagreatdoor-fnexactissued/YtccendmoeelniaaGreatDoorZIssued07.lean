/-
  Texts of one proof, joined: ToUpdS, Rdr.
-/
import Derived.Test.YtccendmoeelniaaGreatDoorZIssued05
import Derived.Test.YtccendmoeelniaaGreatDoorZIssued06
import Derived.Test.YtccendmoeelniaaGreatDoorZIssued00
import Derived.Test.YtccendmoeelniaaGreatDoorZIssued02
namespace Go.Proofs.YtccendmoeelniaaGreatDoor
open Go.ChangeShapes Go.WideShapes Go.ChangeAt Go.RowKit
set_option linter.unusedSimpArgs false
theorem infoUpd0 : (Tryz.prog.info? 38).map (fun i => (i.zero, i.size, i.bytes)) = some (some (.agg #[.int .i64 0, .int .i64 0, .int .i64 0, .int .i64 0, .int .i64 0, .int .i64 0, .int .i64 0, .int .i64 0, .int .i64 0, .string ByteArray.empty, .int .i64 0, .int .i64 0, .int .i64 0]), 13, 112) := by kernel_rfl

theorem infoUpd : ∃ i, Tryz.prog.info? 38 = some i ∧ i.zero = some (.agg #[.int .i64 0, .int .i64 0, .int .i64 0, .int .i64 0, .int .i64 0, .int .i64 0, .int .i64 0, .int .i64 0, .int .i64 0, .string ByteArray.empty, .int .i64 0, .int .i64 0, .int .i64 0]) ∧ i.size = 13 ∧ i.bytes = 112 := by
  have h := infoUpd0
  cases e : Tryz.prog.info? 38 with
  | none => rw [e] at h; cases h
  | some i => rw [e] at h; simp at h; exact ⟨i, rfl, h.1, h.2.1, h.2.2⟩

set_option maxHeartbeats 4000000 in
theorem toUpdateS_any (av : Option Addr) (n cn : Nat) (us : List M1.Upd) (w : World) (h1 : IsUpds w av n cn us) (hn : n ≤ 1048576) :
    Calls Tryz.prog 36 #[.slice av n cn] w fun e w' => ∃ g, e = .returned (.slice (some ⟨g, 0, none⟩) n n) ∧ w.heap.size ≤ g ∧ RowAt w' g (n * 13) (ucell us) ∧ Below w.heap.size w w' := by
  have hm1 := h1.hcap
  have hm2 := h1.hmost
  unfold maxLen at hm2
  obtain ⟨ti, hi1, hi2, hi3, hi4⟩ := infoUpd
  have hi4' : Hid (ti.bytes = 112) := hi4
  have hi2' : Hid (ti.zero = some (.agg #[.int .i64 0, .int .i64 0, .int .i64 0, .int .i64 0, .int .i64 0, .int .i64 0, .int .i64 0, .int .i64 0, .int .i64 0, .string ByteArray.empty, .int .i64 0, .int .i64 0, .int .i64 0])) := hi2
  have hi3' : Hid (ti.size = 13) := hi3
  have hi1' : Hid (Tryz.prog.info? 38 = some ti) := hi1
  clear hi1 hi2 hi3 hi4
  go_enter Tryz.func36, Tryz.ntmps36
  go_wp2_with (at_make; refine wpList_make_full _ rfl _ _ _ rfl w.heap.size 38 ti _ 13 Tryz.underlying26 hi1'.out hi2'.out hi3'.out _ _ _ _ n rfl rfl rfl rfl (by rw [hi4'.out]; omega) (by unfold maxLen; omega) (Nat.le_refl _) ?_; intro w1 hown hgrow)
  have hrow0 := RowAt.of_owns hown
  have hB1 : Below w.heap.size w w1 := (Below.refl _ _).grown hgrow (Nat.le_refl _) (fun k e => by cases e)
  clear hown hgrow hi1' hi2' hi3' hi4'
  go_wp2_with fail
  go_loopw [4] (fun i wr => ∃ k : Nat, k ≤ n ∧ i = .int .i64 k ∧ Below w.heap.size w wr ∧ ∃ f, RowAt wr w.heap.size (n * 13) f ∧ Hid (∀ o, o < k * 13 → f o = ucell us o)) (fun i _ => n - (intOf i).toNat)
  case atStart => exact ⟨0, Nat.zero_le _, rfl, hB1, _, hrow0, fun o ho => absurd ho (by omega)⟩
  case round =>
    clear hrow0 hB1
    obtain ⟨k, hk, rfl, hB, f, hrow, hall⟩ := hrel
    by_cases hlt : k < n
    · have g1 := h1.below hB
      rcases g1.hlies with h0 | ⟨b, off, rfl, hb, hc⟩
      · omega
      obtain ⟨c0, c1, c2, c3, c4, c5, c6, c7, c8, c9, c10, c11, c12⟩ := hc k hlt
      clear hc g1
      have i0 : (0 : Int) ≤ (k : Int) := by omega
      have i1 : (k : Int) < (n : Int) := by omega
      go_wp2_with fail
      refine (toUpdate_any _ _ _ _ _ _ _ _ _ _ _ _ _ _).mono ?_
      rintro e w2 ⟨rfl, hb2⟩
      have hrow2 := hrow.below hb2
      have hB2 := hB.trans (hb2.mono hB.size)
      have d0 := hrow2.cell (o := k * 13) (by omega)
      have f0 := hrow2.free (o := k * 13) (by omega)
      have d1 := hrow2.cell (o := k * 13 + 1) (by omega)
      have f1 := hrow2.free (o := k * 13 + 1) (by omega)
      have d2 := hrow2.cell (o := k * 13 + 2) (by omega)
      have f2 := hrow2.free (o := k * 13 + 2) (by omega)
      have d3 := hrow2.cell (o := k * 13 + 3) (by omega)
      have f3 := hrow2.free (o := k * 13 + 3) (by omega)
      have d4 := hrow2.cell (o := k * 13 + 4) (by omega)
      have f4 := hrow2.free (o := k * 13 + 4) (by omega)
      have d5 := hrow2.cell (o := k * 13 + 5) (by omega)
      have f5 := hrow2.free (o := k * 13 + 5) (by omega)
      have d6 := hrow2.cell (o := k * 13 + 6) (by omega)
      have f6 := hrow2.free (o := k * 13 + 6) (by omega)
      have d7 := hrow2.cell (o := k * 13 + 7) (by omega)
      have f7 := hrow2.free (o := k * 13 + 7) (by omega)
      have d8 := hrow2.cell (o := k * 13 + 8) (by omega)
      have f8 := hrow2.free (o := k * 13 + 8) (by omega)
      have d9 := hrow2.cell (o := k * 13 + 9) (by omega)
      have f9 := hrow2.free (o := k * 13 + 9) (by omega)
      have d10 := hrow2.cell (o := k * 13 + 10) (by omega)
      have f10 := hrow2.free (o := k * 13 + 10) (by omega)
      have d11 := hrow2.cell (o := k * 13 + 11) (by omega)
      have f11 := hrow2.free (o := k * 13 + 11) (by omega)
      have d12 := hrow2.cell (o := k * 13 + 12) (by omega)
      have f12 := hrow2.free (o := k * 13 + 12) (by omega)
      go_wp2_with fail
      refine ⟨⟨k + 1, by omega, by go_num, (((((((((((((hB2.setCell (Nat.le_refl _) _).setCell (Nat.le_refl _) _).setCell (Nat.le_refl _) _).setCell (Nat.le_refl _) _).setCell (Nat.le_refl _) _).setCell (Nat.le_refl _) _).setCell (Nat.le_refl _) _).setCell (Nat.le_refl _) _).setCell (Nat.le_refl _) _).setCell (Nat.le_refl _) _).setCell (Nat.le_refl _) _).setCell (Nat.le_refl _) _).setCell (Nat.le_refl _) _), _, (((((((((((((hrow2.set (o := k * 13) (by omega) _).set (o := k * 13 + 1) (by omega) _).set (o := k * 13 + 2) (by omega) _).set (o := k * 13 + 3) (by omega) _).set (o := k * 13 + 4) (by omega) _).set (o := k * 13 + 5) (by omega) _).set (o := k * 13 + 6) (by omega) _).set (o := k * 13 + 7) (by omega) _).set (o := k * 13 + 8) (by omega) _).set (o := k * 13 + 9) (by omega) _).set (o := k * 13 + 10) (by omega) _).set (o := k * 13 + 11) (by omega) _).set (o := k * 13 + 12) (by omega) _), fun o ho => ?_⟩, by simp [intOf]; omega⟩
      by_cases hlo : o < k * 13
      · simp only [if_neg (show ¬ o = k * 13 by omega), if_neg (show ¬ o = k * 13 + 1 by omega), if_neg (show ¬ o = k * 13 + 2 by omega), if_neg (show ¬ o = k * 13 + 3 by omega), if_neg (show ¬ o = k * 13 + 4 by omega), if_neg (show ¬ o = k * 13 + 5 by omega), if_neg (show ¬ o = k * 13 + 6 by omega), if_neg (show ¬ o = k * 13 + 7 by omega), if_neg (show ¬ o = k * 13 + 8 by omega), if_neg (show ¬ o = k * 13 + 9 by omega), if_neg (show ¬ o = k * 13 + 10 by omega), if_neg (show ¬ o = k * 13 + 11 by omega), if_neg (show ¬ o = k * 13 + 12 by omega)]
        exact hall.out o hlo
      · obtain ⟨j, rfl⟩ : ∃ j, o = k * 13 + j := ⟨o - k * 13, by omega⟩
        rw [ucell_at us k j (by omega)]
        have hj : j = 0 ∨ j = 1 ∨ j = 2 ∨ j = 3 ∨ j = 4 ∨ j = 5 ∨ j = 6 ∨ j = 7 ∨ j = 8 ∨ j = 9 ∨ j = 10 ∨ j = 11 ∨ j = 12 := by omega
        rcases hj with rfl | rfl | rfl | rfl | rfl | rfl | rfl | rfl | rfl | rfl | rfl | rfl | rfl
        all_goals (simp [ucs])
    · have hkn : Hid (k = n) := by show k = n; omega
      go_wp2_with fail
      go_ret
      exact ⟨_, rfl, Nat.le_refl _, hrow.same (fun o ho => hall.out o (by have := hkn.out; omega)), hB⟩

end Go.Proofs.YtccendmoeelniaaGreatDoor

namespace Go.Proofs.YtccendmoeelniaaGreatDoor
open Go.RowKit
abbrev Gr (g : Nat) (w w' : World) : Prop := w.grownBy w' (some g)

theorem gr_refl (g : Nat) (w : World) : Gr g w w := ⟨rfl, rfl, rfl, Nat.le_refl _, fun _ _ _ => rfl⟩

theorem gr_trans {g : Nat} {a b c : World} (h : Gr g a b) (k : Gr g b c) : Gr g a c :=
  ⟨k.os.trans h.os, k.tape.trans h.tape, k.output.trans h.output, Nat.le_trans h.size k.size, fun i hi hn => (k.block i (Nat.lt_of_lt_of_le hi h.size) hn).trans (h.block i hi hn)⟩

theorem gr_below {g : Nat} {a b : World} (h : Below a.heap.size a b) : Gr g a b := ⟨h.os, h.tape, h.output, h.size, fun i hi _ => h.block i hi⟩

theorem gr_set {g : Nat} {a b : World} (h : Gr g a b) (o : Nat) (v : Value) : Gr g a (b.setCell ⟨g, o, none⟩ v) :=
  gr_trans h ⟨rfl, rfl, rfl, by simp [World.setCell], fun k _ hn => Below.heap_setCell _ _ _ _ (fun e => hn (by rw [e]))⟩

theorem gr_alloc {g : Nat} {a b : World} (h : Gr g a b) (o : Obj) : Gr g a (b.alloc o) := gr_trans h (gr_below ((Below.refl _ _).alloc (Nat.le_refl _) o))

theorem gr_to {g B : Nat} {a b : World} (h : Gr g a b) (hB : B ≤ a.heap.size) (hg : B ≤ g) : Below B a b :=
  (Below.refl B a).grown h hB (fun k e => by injection e with e; omega)

theorem gr_cell {g : Nat} {a b : World} (h : Gr g a b) {k : Nat} (hk : k < a.heap.size) (hn : k ≠ g) (o : Nat) : b.cell? ⟨k, o, none⟩ = a.cell? ⟨k, o, none⟩ :=
  World.cell?_of_block (w := a) (h.block k hk (fun e => hn (by injection e)))

theorem gr_frozen {g : Nat} {a b : World} (h : Gr g a b) {k : Nat} (hk : k < a.heap.size) (hn : k ≠ g) (o : Nat) : b.frozen? ⟨k, o, none⟩ = a.frozen? ⟨k, o, none⟩ :=
  World.frozen?_of_block (w := a) (h.block k hk (fun e => hn (by injection e)))

theorem RowAt.gr {w w' : World} {k m g : Nat} {f : Nat → Value} (h : RowAt w k m f) (hg : Gr g w w') (hn : k ≠ g) : RowAt w' k m f :=
  ⟨Nat.lt_of_lt_of_le h.1 hg.size, fun o ho => ⟨(gr_cell hg h.1 hn o).trans (h.2 o ho).1, (gr_frozen hg h.1 hn o).trans (h.2 o ho).2⟩⟩

structure Rdr (w : World) (g : Nat) (av : Option Addr) (len cap : Nat) : Prop where
  lt : g < w.heap.size
  c0 : w.cell? ⟨g, 0, none⟩ = some (.slice av len cap)
  c1 : ∃ p : Nat, p ≤ len ∧ w.cell? ⟨g, 1, none⟩ = some (.int .i64 p)
  f0 : w.frozen? ⟨g, 0, none⟩ = false
  f1 : w.frozen? ⟨g, 1, none⟩ = false
  hc : len ≤ cap
  hm : cap ≤ maxLen
  lies : len = 0 ∨ ∃ b off, av = some ⟨b, off, none⟩ ∧ b < w.heap.size ∧ ¬ b = g ∧ ∀ i, i < len → ∃ z, w.cell? ⟨b, off + i, none⟩ = some (.int .u8 z) ∧ 0 ≤ z ∧ z ≤ 255

theorem Rdr.below {w w' : World} {g : Nat} {av : Option Addr} {len cap : Nat} (h : Rdr w g av len cap) (hb : Below w.heap.size w w') : Rdr w' g av len cap := by
  obtain ⟨p, hp, h1⟩ := h.c1
  exact ⟨Nat.lt_of_lt_of_le h.lt hb.size, (hb.cell (p := ⟨g, 0, none⟩) h.lt).trans h.c0, ⟨p, hp, (hb.cell (p := ⟨g, 1, none⟩) h.lt).trans h1⟩, (hb.frozen (p := ⟨g, 0, none⟩) h.lt).trans h.f0, (hb.frozen (p := ⟨g, 1, none⟩) h.lt).trans h.f1, h.hc, h.hm,
    h.lies.imp id fun ⟨b, off, e, hlt, hn, hz⟩ => ⟨b, off, e, Nat.lt_of_lt_of_le hlt hb.size, hn, fun i hi => let ⟨z, h2, h3⟩ := hz i hi; ⟨z, (hb.cell (p := ⟨b, off + i, none⟩) hlt).trans h2, h3⟩⟩⟩

theorem Rdr.set {w : World} {g : Nat} {av : Option Addr} {len cap : Nat} (h : Rdr w g av len cap) {p : Nat} (hp : p ≤ len) : Rdr (w.setCell ⟨g, 1, none⟩ (.int .i64 p)) g av len cap := by
  obtain ⟨q, _, h1⟩ := h.c1
  refine ⟨by have := h.lt; simpa [World.setCell] using this, ?_, ⟨p, hp, World.cell?_setCell_same w _ _ h1⟩, by rw [frozen_setCell]; exact h.f0, by rw [frozen_setCell]; exact h.f1, h.hc, h.hm, ?_⟩
  · rw [World.cell?_setCell_other w _ _ _ (by simp)]; exact h.c0
  · exact h.lies.imp id fun ⟨b, off, e, hlt, hn, hz⟩ => ⟨b, off, e, by simpa [World.setCell] using hlt, hn, fun i hi => let ⟨z, h2, h3⟩ := hz i hi; ⟨z, (World.cell?_setCell_other w _ _ _ (fun e => hn (by injection e with e1 _ _; exact e1.symm))).trans h2, h3⟩⟩

theorem Rdr.old {w : World} {g : Nat} {av : Option Addr} {len cap : Nat} (h : Rdr w g av len cap) {k : Nat} (hk : w.heap.size ≤ k) : len = 0 ∨ ∃ b off, av = some ⟨b, off, none⟩ ∧ ¬ k = b :=
  h.lies.imp id fun ⟨b, off, e, hlt, _, _⟩ => ⟨b, off, e, by omega⟩

theorem Rdr.far {w : World} {g : Nat} {av : Option Addr} {len cap : Nat} (h : Rdr w g av len cap) {p : Addr} (hp : ¬ p.block = g) (hq : len = 0 ∨ ∃ b off, av = some ⟨b, off, none⟩ ∧ ¬ p.block = b) (v : Value) : Rdr (w.setCell p v) g av len cap := by
  obtain ⟨q, hq1, h1⟩ := h.c1
  have ne : ∀ o, p ≠ ⟨g, o, none⟩ := fun o e => hp (by rw [e])
  refine ⟨by have := h.lt; simpa [World.setCell] using this, ?_, ⟨q, hq1, ?_⟩, by rw [frozen_setCell]; exact h.f0, by rw [frozen_setCell]; exact h.f1, h.hc, h.hm, ?_⟩
  · rw [World.cell?_setCell_other w _ _ _ (ne 0)]; exact h.c0
  · rw [World.cell?_setCell_other w _ _ _ (ne 1)]; exact h1
  · rcases hq with hq | ⟨b1, off1, e1, hq⟩
    · exact Or.inl hq
    · exact h.lies.imp id fun ⟨b, off, e, hlt, hn, hz⟩ => ⟨b, off, e, by simpa [World.setCell] using hlt, hn, fun i hi => let ⟨z, h2, h3⟩ := hz i hi; ⟨z, (World.cell?_setCell_other w _ _ _ (fun e2 => by
        rw [e1] at e; injection e with e; injection e with e3 _ _
        rw [e2] at hq; exact hq e3.symm)).trans h2, h3⟩⟩

end Go.Proofs.YtccendmoeelniaaGreatDoor
