/-
  The laws' reader of drawn bytes: what it is in memory, what a call that reads leaves.
-/
import Derived.Test.YtjgcjopijblpkaaDoorKept
import Derived.Test.YtjgcjopijblpkaaDoorRow
namespace Go.Proofs.YtjgcjopijblpkaaDoor
open Go.RowKit

/-- All that was there is as it was, but for block g. -/
abbrev Gr (g : Nat) (w w' : World) : Prop := w.grownBy w' (some g)

theorem gr_refl (g : Nat) (w : World) : Gr g w w := ⟨rfl, rfl, rfl, Nat.le_refl _, fun _ _ _ => rfl⟩
theorem gr_trans {g : Nat} {a b c : World} (h : Gr g a b) (k : Gr g b c) : Gr g a c :=
  ⟨k.os.trans h.os, k.tape.trans h.tape, k.output.trans h.output, Nat.le_trans h.size k.size, fun i hi hn => (k.block i (Nat.lt_of_lt_of_le hi h.size) hn).trans (h.block i hi hn)⟩
theorem gr_below {g : Nat} {a b : World} (h : Below a.heap.size a b) : Gr g a b := ⟨h.os, h.tape, h.output, h.size, fun i hi _ => h.block i hi⟩
theorem gr_drew {g : Nat} {a b : World} (h : Gr g a b) : Gr g a b.drew := ⟨h.os, h.tape, h.output, h.size, h.block⟩
theorem gr_set {g : Nat} {a b : World} (h : Gr g a b) (o : Nat) (v : Value) : Gr g a (b.setCell ⟨g, o, none⟩ v) :=
  gr_trans h ⟨rfl, rfl, rfl, by simp [World.setCell], fun k _ hn => Below.heap_setCell _ _ _ _ (fun e => hn (by rw [e]))⟩
theorem gr_new {g : Nat} {a b : World} (h : Gr g a b) (p : Addr) (hp : a.heap.size ≤ p.block) (v : Value) : Gr g a (b.setCell p v) :=
  ⟨h.os, h.tape, h.output, Nat.le_trans h.size (by simp [World.setCell]), fun k hk hn => (Below.heap_setCell _ _ _ _ (by omega)).trans (h.block k hk hn)⟩
theorem gr_alloc {g : Nat} {a b : World} (h : Gr g a b) (o : Obj) : Gr g a (b.alloc o) := gr_trans h (gr_below ((Below.refl _ _).alloc (Nat.le_refl _) o))
theorem gr_to {g B : Nat} {a b : World} (h : Gr g a b) (hB : B ≤ a.heap.size) (hg : B ≤ g) : Below B a b :=
  (Below.refl B a).grown h hB (fun k e => by injection e with e; omega)
theorem gr_cell {g : Nat} {a b : World} (h : Gr g a b) {k : Nat} (hk : k < a.heap.size) (hn : k ≠ g) (o : Nat) : b.cell? ⟨k, o, none⟩ = a.cell? ⟨k, o, none⟩ :=
  World.cell?_of_block (w := a) (h.block k hk (fun e => hn (by injection e)))
theorem gr_frozen {g : Nat} {a b : World} (h : Gr g a b) {k : Nat} (hk : k < a.heap.size) (hn : k ≠ g) (o : Nat) : b.frozen? ⟨k, o, none⟩ = a.frozen? ⟨k, o, none⟩ :=
  World.frozen?_of_block (w := a) (h.block k hk (fun e => hn (by injection e)))
/-- Rules for the walk. -/
theorem gr_rules {g : Nat} {a b : World} (h : Gr g a b) : (∀ k o, k < a.heap.size → ¬ k = g → b.cell? ⟨k, o, none⟩ = a.cell? ⟨k, o, none⟩) ∧ (∀ k o, k < a.heap.size → ¬ k = g → b.frozen? ⟨k, o, none⟩ = a.frozen? ⟨k, o, none⟩) ∧ (∀ n, n < a.heap.size → n < b.heap.size) ∧ (∀ n, n < a.heap.size → ¬ n = b.heap.size) :=
  ⟨fun _ o hk hn => gr_cell h hk hn o, fun _ o hk hn => gr_frozen h hk hn o, fun n h2 => Nat.lt_of_lt_of_le h2 h.size, fun n h2 => by have := h.size; omega⟩
theorem RowAt.gr {w w' : World} {k m g : Nat} {f : Nat → Value} (h : RowAt w k m f) (hg : Gr g w w') (hn : k ≠ g) : RowAt w' k m f :=
  ⟨Nat.lt_of_lt_of_le h.1 hg.size, fun o ho => ⟨(gr_cell hg h.1 hn o).trans (h.2 o ho).1, (gr_frozen hg h.1 hn o).trans (h.2 o ho).2⟩⟩

/-- A reader lies in block g, over a slice of bytes. -/
structure Rdr (w : World) (g : Nat) (av : Option Addr) (len cap : Nat) : Prop where
  lt : g < w.heap.size
  c0 : w.cell? ⟨g, 0, none⟩ = some (.slice av len cap)
  c1 : ∃ p : Nat, p ≤ len ∧ w.cell? ⟨g, 1, none⟩ = some (.int .i64 p)
  f0 : w.frozen? ⟨g, 0, none⟩ = false
  f1 : w.frozen? ⟨g, 1, none⟩ = false
  hc : len ≤ cap
  hm : cap ≤ maxLen
  lies : len = 0 ∨ ∃ b off, av = some ⟨b, off, none⟩ ∧ b < w.heap.size ∧ ¬ b = g ∧ ∀ i, i < len → ∃ z, w.cell? ⟨b, off + i, none⟩ = some (.int .u8 z) ∧ 0 ≤ z ∧ z ≤ 255

/-- The reader stays where it is while other blocks are made or written. -/
theorem Rdr.below {w w' : World} {g : Nat} {av : Option Addr} {len cap : Nat} (h : Rdr w g av len cap) (hb : Below w.heap.size w w') : Rdr w' g av len cap := by
  obtain ⟨p, hp, h1⟩ := h.c1
  exact ⟨Nat.lt_of_lt_of_le h.lt hb.size, (hb.cell (p := ⟨g, 0, none⟩) h.lt).trans h.c0, ⟨p, hp, (hb.cell (p := ⟨g, 1, none⟩) h.lt).trans h1⟩, (hb.frozen (p := ⟨g, 0, none⟩) h.lt).trans h.f0, (hb.frozen (p := ⟨g, 1, none⟩) h.lt).trans h.f1, h.hc, h.hm,
    h.lies.imp id fun ⟨b, off, e, hlt, hn, hz⟩ => ⟨b, off, e, Nat.lt_of_lt_of_le hlt hb.size, hn, fun i hi => let ⟨z, h2, h3⟩ := hz i hi; ⟨z, (hb.cell (p := ⟨b, off + i, none⟩) hlt).trans h2, h3⟩⟩⟩
theorem Rdr.set {w : World} {g : Nat} {av : Option Addr} {len cap : Nat} (h : Rdr w g av len cap) {p : Nat} (hp : p ≤ len) : Rdr (w.setCell ⟨g, 1, none⟩ (.int .i64 p)) g av len cap := by
  obtain ⟨q, _, h1⟩ := h.c1
  refine ⟨by have := h.lt; simpa [World.setCell] using this, ?_, ⟨p, hp, World.cell?_setCell_same w _ _ h1⟩, by rw [frozen_setCell]; exact h.f0, by rw [frozen_setCell]; exact h.f1, h.hc, h.hm, ?_⟩
  · rw [World.cell?_setCell_other w _ _ _ (by simp)]; exact h.c0
  · exact h.lies.imp id fun ⟨b, off, e, hlt, hn, hz⟩ => ⟨b, off, e, by simpa [World.setCell] using hlt, hn, fun i hi => let ⟨z, h2, h3⟩ := hz i hi; ⟨z, (World.cell?_setCell_other w _ _ _ (fun e => hn (by injection e with e1 _ _; exact e1.symm))).trans h2, h3⟩⟩
theorem Rdr.old {w : World} {g : Nat} {av : Option Addr} {len cap : Nat} (h : Rdr w g av len cap) {k : Nat} (hk : w.heap.size ≤ k) : len = 0 ∨ ∃ b off, av = some ⟨b, off, none⟩ ∧ ¬ k = b :=
  h.lies.imp id fun ⟨b, off, e, hlt, _, _⟩ => ⟨b, off, e, by omega⟩
theorem Rdr.far {w : World} {g : Nat} {av : Option Addr} {len cap : Nat} (h : Rdr w g av len cap) {p : Addr} (hp : ¬ p.block = g) (hq : len = 0 ∨ ∃ b off, av = some ⟨b, off, none⟩ ∧ ¬ p.block = b) (v : Value) : Rdr (w.setCell p v) g av len cap := by
  obtain ⟨q, hq1, h1⟩ := h.c1
  have ne : ∀ o, p ≠ ⟨g, o, none⟩ := fun o e => hp (by rw [e])
  refine ⟨by have := h.lt; simpa [World.setCell] using this, ?_, ⟨q, hq1, ?_⟩, by rw [frozen_setCell]; exact h.f0, by rw [frozen_setCell]; exact h.f1, h.hc, h.hm, ?_⟩
  · rw [World.cell?_setCell_other w _ _ _ (ne 0)]; exact h.c0
  · rw [World.cell?_setCell_other w _ _ _ (ne 1)]; exact h1
  · rcases hq with hq | ⟨b1, off1, e1, hq⟩
    · exact Or.inl hq
    · exact h.lies.imp id fun ⟨b, off, e, hlt, hn, hz⟩ => ⟨b, off, e, by simpa [World.setCell] using hlt, hn, fun i hi => let ⟨z, h2, h3⟩ := hz i hi; ⟨z, (World.cell?_setCell_other w _ _ _ (fun e2 => by
        rw [e1] at e; injection e with e; injection e with e3 _ _
        rw [e2] at hq; exact hq e3.symm)).trans h2, h3⟩⟩
end Go.Proofs.YtjgcjopijblpkaaDoor
