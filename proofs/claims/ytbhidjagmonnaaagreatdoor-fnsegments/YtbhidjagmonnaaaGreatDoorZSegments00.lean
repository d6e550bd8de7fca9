/-
  Texts of one proof, joined: Kept, Row, Rdr, Math17.
-/
import Derived.WalkKit
import Derived.Below
import Derived.OwnWalk
import Derived.Laws.BitsAllLaws
namespace Go.Proofs.YtbhidjagmonnaaaGreatDoor
open Go.RowKit

theorem aZ {A : Type} {l : List A} {i : Nat} (h : i < l.toArray.size) : l.toArray[i] = l[i]'(by simpa using h) := List.getElem_toArray h
theorem bZ {A : Type} (a : A) (l : List A) (h : 0 < (a :: l).length) : (a :: l)[0] = a := List.getElem_cons_zero _ _ h
theorem cZ {A : Type} (a : A) (l : List A) (i : Nat) (h : i + 1 < (a :: l).length) : (a :: l)[i + 1] = l[i]'(by simpa using h) := List.getElem_cons_succ _ _ _ h
theorem dZ {A : Type} (l : List A) (i : Nat) (a : A) : l.toArray.setIfInBounds i a = (l.set i a).toArray := List.setIfInBounds_toArray _ _ _
theorem eZ {A : Type} (a b : A) (l : List A) : (a :: l).set 0 b = b :: l := List.set_cons_zero
theorem fZ {A : Type} (a b : A) (l : List A) (n : Nat) : (a :: l).set (n + 1) b = a :: l.set n b := List.set_cons_succ

/-- From W0 on nothing below its end has turned: as a fact, and as rules for the walk. -/
abbrev Kp (W0 w' : World) : Prop := Below W0.heap.size W0 w' ∧ (∀ b o, b < W0.heap.size → w'.cell? ⟨b, o, none⟩ = W0.cell? ⟨b, o, none⟩)

theorem kp_of {W0 w' : World} (h : Below W0.heap.size W0 w') : Kp W0 w' := ⟨h, fun b o hb => h.cell (p := ⟨b, o, none⟩) hb⟩
theorem kp_zero (W0 : World) : Kp W0 W0.drew := kp_of (Below.refl _ _).drew
theorem kp_drew {W0 w1 : World} (h : Kp W0 w1) : Kp W0 w1.drew := kp_of h.1.drew
theorem kp_step {W0 w1 w2 : World} (h : Kp W0 w1) (hb : Below w1.heap.size w1 w2) : Kp W0 w2 := kp_of (h.1.trans (hb.mono h.1.size))

theorem bcell {W w1 : World} (hb : Below W.heap.size W w1) : (∀ b o, b < W.heap.size → w1.cell? ⟨b, o, none⟩ = W.cell? ⟨b, o, none⟩) ∧ (∀ b o, b < W.heap.size → w1.frozen? ⟨b, o, none⟩ = W.frozen? ⟨b, o, none⟩) :=
  ⟨fun b o h => hb.cell (p := ⟨b, o, none⟩) h, fun b o h => hb.frozen (p := ⟨b, o, none⟩) h⟩

/-- The same, and that what was a block's number below the end is so still: rules for the walk. -/
theorem brules {W w1 : World} (hb : Below W.heap.size W w1) : (∀ b o, b < W.heap.size → w1.cell? ⟨b, o, none⟩ = W.cell? ⟨b, o, none⟩) ∧ (∀ b o, b < W.heap.size → w1.frozen? ⟨b, o, none⟩ = W.frozen? ⟨b, o, none⟩) ∧ (∀ n, n < W.heap.size → n < w1.heap.size) ∧ (∀ n, n < W.heap.size → ¬ n = w1.heap.size) :=
  ⟨fun b o h => hb.cell (p := ⟨b, o, none⟩) h, fun b o h => hb.frozen (p := ⟨b, o, none⟩) h, fun n h => Nat.lt_of_lt_of_le h hb.size, fun n h => by have := hb.size; omega⟩

theorem cum {A w1 w2 : World} (h1 : Below A.heap.size A w1) (h2 : Below w1.heap.size w1 w2) : Below A.heap.size A w2 := h1.trans (h2.mono h1.size)
theorem kp_alloc {W0 w1 : World} (h : Kp W0 w1) (o : Obj) : Kp W0 (w1.alloc o) := kp_of (h.1.alloc h.1.size o)
theorem kp_realloc {W0 w1 : World} {o : Obj} (h : Kp W0 (w1.alloc o)) (hs : W0.heap.size ≤ w1.heap.size) (o' : Obj) : Kp W0 (w1.alloc o') :=
  kp_of ⟨h.1.os, h.1.tape, h.1.output, by simp; omega, fun k hk => by
    have := h.1.block k hk
    rw [Below.heap_alloc w1 o k (by omega)] at this
    rw [Below.heap_alloc w1 o' k (by omega)]; exact this⟩
theorem kp_set {W0 w1 : World} (h : Kp W0 w1) (p : Addr) (v : Value) (hp : W0.heap.size ≤ p.block) : Kp W0 (w1.setCell p v) := kp_of (h.1.setCell hp v)
end Go.Proofs.YtbhidjagmonnaaaGreatDoor

namespace Go.Proofs.YtbhidjagmonnaaaGreatDoor
open Go.RowKit

/-- From the head of block g on lie m cells, f o at place o, and each may be written. -/
def RowAt (w : World) (g m : Nat) (f : Nat → Value) : Prop := g < w.heap.size ∧ ∀ o, o < m → w.cell? ⟨g, o, none⟩ = some (f o) ∧ w.frozen? ⟨g, o, none⟩ = false

theorem RowAt.lt {w : World} {g m : Nat} {f : Nat → Value} (h : RowAt w g m f) : g < w.heap.size := h.1
theorem RowAt.cell {w : World} {g m : Nat} {f : Nat → Value} (h : RowAt w g m f) {o : Nat} (ho : o < m) : w.cell? ⟨g, o, none⟩ = some (f o) := (h.2 o ho).1
theorem RowAt.free {w : World} {g m : Nat} {f : Nat → Value} (h : RowAt w g m f) {o : Nat} (ho : o < m) : w.frozen? ⟨g, o, none⟩ = false := (h.2 o ho).2
theorem RowAt.below {w w' : World} {g m : Nat} {f : Nat → Value} (h : RowAt w g m f) (hb : Below w.heap.size w w') : RowAt w' g m f :=
  ⟨Nat.lt_of_lt_of_le h.1 hb.size, fun o ho => ⟨(hb.cell (p := ⟨g, o, none⟩) h.1).trans (h.2 o ho).1, (hb.frozen (p := ⟨g, o, none⟩) h.1).trans (h.2 o ho).2⟩⟩
theorem RowAt.same {w : World} {g m : Nat} {f f' : Nat → Value} (h : RowAt w g m f) (he : ∀ o, o < m → f o = f' o) : RowAt w g m f' :=
  ⟨h.1, fun o ho => by rw [← he o ho]; exact h.2 o ho⟩
theorem RowAt.drew {w : World} {g m : Nat} {f : Nat → Value} (h : RowAt w g m f) : RowAt w.drew g m f := h

theorem frozen_setCell (w : World) (p a : Addr) (v : Value) : (w.setCell p v).frozen? a = w.frozen? a := World.frozen?_setCell w p a v

/-- What was stored lies there, wherever a cell is: for 'simp'. -/
theorem cell_set_same (w : World) (p : Addr) (v : Value) (h : (w.cell? p).isSome = true) : (w.setCell p v).cell? p = some v := by
  obtain ⟨u, hu⟩ := Option.isSome_iff_exists.1 h
  exact World.cell?_setCell_same w p v hu

theorem RowAt.set {w : World} {g m : Nat} {f : Nat → Value} (h : RowAt w g m f) {o : Nat} (ho : o < m) (v : Value) : RowAt (w.setCell ⟨g, o, none⟩ v) g m (fun x => if x = o then v else f x) := by
  refine ⟨by have := h.1; simpa [World.setCell] using this, fun x hx => ⟨?_, by rw [frozen_setCell]; exact (h.2 x hx).2⟩⟩
  by_cases e : x = o
  · subst e; simp only [if_true]; exact World.cell?_setCell_same w _ v (h.2 x hx).1
  · simp only [if_neg e]; rw [World.cell?_setCell_other w _ _ v (by intro e2; exact e (by injection e2 with _ e3 _; exact e3.symm))]; exact (h.2 x hx).1

theorem RowAt.far {w : World} {g m : Nat} {f : Nat → Value} (h : RowAt w g m f) {p : Addr} (hp : p.block ≠ g) (v : Value) : RowAt (w.setCell p v) g m f :=
  ⟨by have := h.1; simpa [World.setCell] using this, fun x hx => ⟨by rw [World.cell?_setCell_other w p _ v (fun e => hp (by rw [e]))]; exact (h.2 x hx).1, by rw [frozen_setCell]; exact (h.2 x hx).2⟩⟩

theorem RowAt.new (w : World) (cs : Array Value) (t : TypeId) : RowAt (w.alloc (.cells cs t)) w.heap.size cs.size (fun o => cs.getD o undef) := by
  have hh : (w.alloc (.cells cs t)).heap[w.heap.size]? = some (.cells cs t) := by
    show (w.heap.push (.cells cs t))[w.heap.size]? = _
    simp
  refine ⟨by simp, fun o ho => ⟨?_, ?_⟩⟩
  · unfold World.cell?; rw [hh]; simp [ho]
  · unfold World.frozen?; rw [hh]; simp
theorem RowAt.alloc {w : World} {g m : Nat} {f : Nat → Value} (h : RowAt w g m f) (o : Obj) : RowAt (w.alloc o) g m f := h.below ((Below.refl _ _).alloc (Nat.le_refl _) o)
theorem RowAt.zero5 (w : World) (t : TypeId) (f : Nat → Value) (hf : ∀ o, f o = .int .i64 0) : RowAt (w.alloc (.cells #[.int .i64 0, .int .i64 0, .int .i64 0, .int .i64 0, .int .i64 0] t)) w.heap.size 5 f :=
  (RowAt.new w #[.int .i64 0, .int .i64 0, .int .i64 0, .int .i64 0, .int .i64 0] t).same fun o ho => by
    rw [hf]; match o, ho with
    | 0, _ => rfl
    | 1, _ => rfl
    | 2, _ => rfl
    | 3, _ => rfl
    | 4, _ => rfl

theorem RowAt.zero3 (w : World) (t : TypeId) : RowAt (w.alloc (.cells #[.int .i64 0, .int .i64 0, .int .i64 0] t)) w.heap.size 3 (fun _ => .int .i64 0) :=
  (RowAt.new w #[.int .i64 0, .int .i64 0, .int .i64 0] t).same fun o ho => by
    match o, ho with
    | 0, _ => rfl
    | 1, _ => rfl
    | 2, _ => rfl

theorem RowAt.of_owns {w : World} {base : Nat} {e : TypeId} {size n cap g : Nat} {xs : List Value} (h : w.ownsRow base e size (.slice (some ⟨g, 0, none⟩) n cap) n xs) : RowAt w g (n * size) (fun o => xs.getD o undef) := by
  obtain ⟨hl, h2⟩ := h
  rcases h2 with ⟨h0, _⟩ | ⟨g', cap', cur, hv, _, hh, hn, _, hcs, ht⟩
  · simp at h0
  · simp at hv
    obtain ⟨rfl, rfl⟩ := hv
    have hlt : g < w.heap.size := by
      rcases Nat.lt_or_ge g w.heap.size with h | h
      · exact h
      · rw [Array.getElem?_eq_none h] at hh; cases hh
    refine ⟨hlt, fun o ho => ?_⟩
    have hle : n * size ≤ cap * size := Nat.mul_le_mul_right _ hn
    have ho2 : o < cur.size := by omega
    have hx : xs.getD o undef = cur[o] := by
      rw [← ht]; simp [List.getD, ho, ho2]
    constructor
    · show _ = some (xs.getD o undef)
      rw [hx]; simp [World.cell?, hh, ho2]
    · simp [World.frozen?, hh]
end Go.Proofs.YtbhidjagmonnaaaGreatDoor

namespace Go.Proofs.YtbhidjagmonnaaaGreatDoor
open Go.RowKit

/-- All that was there is as it was, but for block g. -/
abbrev Gr (g : Nat) (w w' : World) : Prop := w.grownBy w' (some g)

theorem gr_refl (g : Nat) (w : World) : Gr g w w := ⟨rfl, rfl, rfl, Nat.le_refl _, fun _ _ _ => rfl⟩
theorem gr_trans {g : Nat} {a b c : World} (h : Gr g a b) (k : Gr g b c) : Gr g a c :=
  ⟨k.os.trans h.os, k.tape.trans h.tape, k.output.trans h.output, Nat.le_trans h.size k.size, fun i hi hn => (k.block i (Nat.lt_of_lt_of_le hi h.size) hn).trans (h.block i hi hn)⟩
theorem gr_below {g : Nat} {a b : World} (h : Below a.heap.size a b) : Gr g a b := ⟨h.os, h.tape, h.output, h.size, fun i hi _ => h.block i hi⟩
theorem gr_drew {g : Nat} {a b : World} (h : Gr g a b) : Gr g a b.drew := ⟨h.os, h.tape, h.output, h.size, h.block⟩
theorem gr_set {g : Nat} {a b : World} (h : Gr g a b) (o : Nat) (v : Value) : Gr g a (b.setCell ⟨g, o, none⟩ v) :=
  gr_trans h ⟨rfl, rfl, rfl, by simp [World.setCell], fun k _ hn => Below.heap_setCell _ _ _ _ (fun e => hn (by rw [e]))⟩
theorem gr_new {g : Nat} {a b : World} (h : Gr g a b) (p : Addr) (hp : a.heap.size ≤ p.block) (v : Value) : Gr g a (b.setCell p v) :=
  ⟨h.os, h.tape, h.output, Nat.le_trans h.size (by simp [World.setCell]), fun k hk hn => (Below.heap_setCell _ _ _ _ (by omega)).trans (h.block k hk hn)⟩
theorem gr_alloc {g : Nat} {a b : World} (h : Gr g a b) (o : Obj) : Gr g a (b.alloc o) := gr_trans h (gr_below ((Below.refl _ _).alloc (Nat.le_refl _) o))
theorem gr_to {g B : Nat} {a b : World} (h : Gr g a b) (hB : B ≤ a.heap.size) (hg : B ≤ g) : Below B a b :=
  (Below.refl B a).grown h hB (fun k e => by injection e with e; omega)
theorem gr_cell {g : Nat} {a b : World} (h : Gr g a b) {k : Nat} (hk : k < a.heap.size) (hn : k ≠ g) (o : Nat) : b.cell? ⟨k, o, none⟩ = a.cell? ⟨k, o, none⟩ :=
  World.cell?_of_block (w := a) (h.block k hk (fun e => hn (by injection e)))
theorem gr_frozen {g : Nat} {a b : World} (h : Gr g a b) {k : Nat} (hk : k < a.heap.size) (hn : k ≠ g) (o : Nat) : b.frozen? ⟨k, o, none⟩ = a.frozen? ⟨k, o, none⟩ :=
  World.frozen?_of_block (w := a) (h.block k hk (fun e => hn (by injection e)))
/-- Rules for the walk. -/
theorem gr_rules {g : Nat} {a b : World} (h : Gr g a b) : (∀ k o, k < a.heap.size → ¬ k = g → b.cell? ⟨k, o, none⟩ = a.cell? ⟨k, o, none⟩) ∧ (∀ k o, k < a.heap.size → ¬ k = g → b.frozen? ⟨k, o, none⟩ = a.frozen? ⟨k, o, none⟩) ∧ (∀ n, n < a.heap.size → n < b.heap.size) ∧ (∀ n, n < a.heap.size → ¬ n = b.heap.size) :=
  ⟨fun _ o hk hn => gr_cell h hk hn o, fun _ o hk hn => gr_frozen h hk hn o, fun n h2 => Nat.lt_of_lt_of_le h2 h.size, fun n h2 => by have := h.size; omega⟩
theorem RowAt.gr {w w' : World} {k m g : Nat} {f : Nat → Value} (h : RowAt w k m f) (hg : Gr g w w') (hn : k ≠ g) : RowAt w' k m f :=
  ⟨Nat.lt_of_lt_of_le h.1 hg.size, fun o ho => ⟨(gr_cell hg h.1 hn o).trans (h.2 o ho).1, (gr_frozen hg h.1 hn o).trans (h.2 o ho).2⟩⟩

/-- A reader lies in block g, over a slice of bytes. -/
structure Rdr (w : World) (g : Nat) (av : Option Addr) (len cap : Nat) : Prop where
  lt : g < w.heap.size
  c0 : w.cell? ⟨g, 0, none⟩ = some (.slice av len cap)
  c1 : ∃ p : Nat, p ≤ len ∧ w.cell? ⟨g, 1, none⟩ = some (.int .i64 p)
  f0 : w.frozen? ⟨g, 0, none⟩ = false
  f1 : w.frozen? ⟨g, 1, none⟩ = false
  hc : len ≤ cap
  hm : cap ≤ maxLen
  lies : len = 0 ∨ ∃ b off, av = some ⟨b, off, none⟩ ∧ b < w.heap.size ∧ ¬ b = g ∧ ∀ i, i < len → ∃ z, w.cell? ⟨b, off + i, none⟩ = some (.int .u8 z) ∧ 0 ≤ z ∧ z ≤ 255

/-- The reader stays where it is while other blocks are made or written. -/
theorem Rdr.below {w w' : World} {g : Nat} {av : Option Addr} {len cap : Nat} (h : Rdr w g av len cap) (hb : Below w.heap.size w w') : Rdr w' g av len cap := by
  obtain ⟨p, hp, h1⟩ := h.c1
  exact ⟨Nat.lt_of_lt_of_le h.lt hb.size, (hb.cell (p := ⟨g, 0, none⟩) h.lt).trans h.c0, ⟨p, hp, (hb.cell (p := ⟨g, 1, none⟩) h.lt).trans h1⟩, (hb.frozen (p := ⟨g, 0, none⟩) h.lt).trans h.f0, (hb.frozen (p := ⟨g, 1, none⟩) h.lt).trans h.f1, h.hc, h.hm,
    h.lies.imp id fun ⟨b, off, e, hlt, hn, hz⟩ => ⟨b, off, e, Nat.lt_of_lt_of_le hlt hb.size, hn, fun i hi => let ⟨z, h2, h3⟩ := hz i hi; ⟨z, (hb.cell (p := ⟨b, off + i, none⟩) hlt).trans h2, h3⟩⟩⟩
theorem Rdr.set {w : World} {g : Nat} {av : Option Addr} {len cap : Nat} (h : Rdr w g av len cap) {p : Nat} (hp : p ≤ len) : Rdr (w.setCell ⟨g, 1, none⟩ (.int .i64 p)) g av len cap := by
  obtain ⟨q, _, h1⟩ := h.c1
  refine ⟨by have := h.lt; simpa [World.setCell] using this, ?_, ⟨p, hp, World.cell?_setCell_same w _ _ h1⟩, by rw [frozen_setCell]; exact h.f0, by rw [frozen_setCell]; exact h.f1, h.hc, h.hm, ?_⟩
  · rw [World.cell?_setCell_other w _ _ _ (by simp)]; exact h.c0
  · exact h.lies.imp id fun ⟨b, off, e, hlt, hn, hz⟩ => ⟨b, off, e, by simpa [World.setCell] using hlt, hn, fun i hi => let ⟨z, h2, h3⟩ := hz i hi; ⟨z, (World.cell?_setCell_other w _ _ _ (fun e => hn (by injection e with e1 _ _; exact e1.symm))).trans h2, h3⟩⟩
theorem Rdr.old {w : World} {g : Nat} {av : Option Addr} {len cap : Nat} (h : Rdr w g av len cap) {k : Nat} (hk : w.heap.size ≤ k) : len = 0 ∨ ∃ b off, av = some ⟨b, off, none⟩ ∧ ¬ k = b :=
  h.lies.imp id fun ⟨b, off, e, hlt, _, _⟩ => ⟨b, off, e, by omega⟩
theorem Rdr.far {w : World} {g : Nat} {av : Option Addr} {len cap : Nat} (h : Rdr w g av len cap) {p : Addr} (hp : ¬ p.block = g) (hq : len = 0 ∨ ∃ b off, av = some ⟨b, off, none⟩ ∧ ¬ p.block = b) (v : Value) : Rdr (w.setCell p v) g av len cap := by
  obtain ⟨q, hq1, h1⟩ := h.c1
  have ne : ∀ o, p ≠ ⟨g, o, none⟩ := fun o e => hp (by rw [e])
  refine ⟨by have := h.lt; simpa [World.setCell] using this, ?_, ⟨q, hq1, ?_⟩, by rw [frozen_setCell]; exact h.f0, by rw [frozen_setCell]; exact h.f1, h.hc, h.hm, ?_⟩
  · rw [World.cell?_setCell_other w _ _ _ (ne 0)]; exact h.c0
  · rw [World.cell?_setCell_other w _ _ _ (ne 1)]; exact h1
  · rcases hq with hq | ⟨b1, off1, e1, hq⟩
    · exact Or.inl hq
    · exact h.lies.imp id fun ⟨b, off, e, hlt, hn, hz⟩ => ⟨b, off, e, by simpa [World.setCell] using hlt, hn, fun i hi => let ⟨z, h2, h3⟩ := hz i hi; ⟨z, (World.cell?_setCell_other w _ _ _ (fun e2 => by
        rw [e1] at e; injection e with e; injection e with e3 _ _
        rw [e2] at hq; exact hq e3.symm)).trans h2, h3⟩⟩
end Go.Proofs.YtbhidjagmonnaaaGreatDoor

namespace M1

def crcBit (c : Nat) : Nat := if c % 2 = 1 then (c / 2) ^^^ 3988292384 else c / 2
def crcIt : Nat → Nat → Nat
  | 0, c => c
  | n + 1, c => crcBit (crcIt n c)
def crcL (l : List UInt8) (c : Nat) : Nat := l.foldl (fun c b => crcIt 8 (c ^^^ b.toNat)) c
def crc (s : ByteArray) : Nat := 4294967295 ^^^ crcL s.data.toList 4294967295

theorem xor_lt {a b : Nat} (ha : a < 4294967296) (hb : b < 4294967296) : a ^^^ b < 4294967296 := Nat.xor_lt_two_pow (n := 32) ha hb
theorem crcBit_lt {c : Nat} (h : c < 4294967296) : crcBit c < 4294967296 := by
  unfold crcBit
  split
  · exact xor_lt (by omega) (by omega)
  · omega
theorem crcIt_lt {c : Nat} (h : c < 4294967296) : ∀ n, crcIt n c < 4294967296
  | 0 => h
  | n + 1 => crcBit_lt (crcIt_lt h n)
theorem crcL_lt : ∀ (l : List UInt8) (c : Nat), c < 4294967296 → crcL l c < 4294967296
  | [], c, h => h
  | b :: l, c, h => crcL_lt l _ (crcIt_lt (xor_lt h (by have := b.toNat_lt; omega)) 8)
theorem crc_lt (s : ByteArray) : crc s < 4294967296 := xor_lt (by omega) (crcL_lt _ _ (by omega))
theorem crcL_step (s : ByteArray) (k : Nat) (hk : k < s.size) (c : Nat) : crcL (s.data.toList.take (k + 1)) c = crcIt 8 (crcL (s.data.toList.take k) c ^^^ s[k].toNat) := by
  have hk' : k < s.data.toList.length := by simpa using hk
  rw [List.take_succ_eq_append_getElem hk']
  unfold crcL
  rw [List.foldl_append]
  simp [ByteArray.getElem_eq_getElem_data]
theorem crcL_all (s : ByteArray) (c : Nat) : crcL (s.data.toList.take s.size) c = crcL s.data.toList c := by
  rw [List.take_of_length_le (by simp)]

theorem crc_end (s : ByteArray) (k : Nat) (h1 : k ≤ s.size) (h2 : ¬ k < s.size) : crc s = 4294967295 ^^^ crcL (s.data.toList.take k) 4294967295 := by
  obtain rfl : k = s.size := by omega
  rw [crcL_all]; rfl

def by1 (n : Nat) : ByteArray := ByteArray.empty.push (UInt8.ofNat n)
def sumT (s : ByteArray) : ByteArray := (((ByteArray.empty.push (UInt8.ofNat (crc s % 256))).push (UInt8.ofNat (crc s / 256 % 256))).push (UInt8.ofNat (crc s / 65536 % 256))).push (UInt8.ofNat (crc s / 16777216 % 256))
theorem by1_size (n : Nat) : (by1 n).size = 1 := rfl
theorem sumT_size (s : ByteArray) : (sumT s).size = 4 := rfl
def frame (s : ByteArray) : ByteArray := if 200 < s.size then ByteArray.empty else by1 s.size ++ sumT s ++ s
end M1
