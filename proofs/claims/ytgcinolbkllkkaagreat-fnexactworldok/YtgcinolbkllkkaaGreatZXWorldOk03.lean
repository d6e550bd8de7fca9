/-
  Texts of one proof, joined: Row.
-/
import Derived.WalkKit
import Derived.Below
import Derived.OwnWalk
namespace Go.Proofs.YtgcinolbkllkkaaGreat
open Go.RowKit
def RowAt (w : World) (g m : Nat) (f : Nat → Value) : Prop := g < w.heap.size ∧ ∀ o, o < m → w.cell? ⟨g, o, none⟩ = some (f o) ∧ w.frozen? ⟨g, o, none⟩ = false

theorem RowAt.lt {w : World} {g m : Nat} {f : Nat → Value} (h : RowAt w g m f) : g < w.heap.size := h.1

theorem RowAt.cell {w : World} {g m : Nat} {f : Nat → Value} (h : RowAt w g m f) {o : Nat} (ho : o < m) : w.cell? ⟨g, o, none⟩ = some (f o) := (h.2 o ho).1

theorem RowAt.free {w : World} {g m : Nat} {f : Nat → Value} (h : RowAt w g m f) {o : Nat} (ho : o < m) : w.frozen? ⟨g, o, none⟩ = false := (h.2 o ho).2

theorem RowAt.below {w w' : World} {g m : Nat} {f : Nat → Value} (h : RowAt w g m f) (hb : Below w.heap.size w w') : RowAt w' g m f :=
 ⟨Nat.lt_of_lt_of_le h.1 hb.size, fun o ho => ⟨(hb.cell (p := ⟨g, o, none⟩) h.1).trans (h.2 o ho).1, (hb.frozen (p := ⟨g, o, none⟩) h.1).trans (h.2 o ho).2⟩⟩

theorem RowAt.same {w : World} {g m : Nat} {f f' : Nat → Value} (h : RowAt w g m f) (he : ∀ o, o < m → f o = f' o) : RowAt w g m f' :=
 ⟨h.1, fun o ho => by rw [← he o ho]; exact h.2 o ho⟩

theorem RowAt.drew {w : World} {g m : Nat} {f : Nat → Value} (h : RowAt w g m f) : RowAt w.drew g m f := h

theorem frozen_setCell (w : World) (p a : Addr) (v : Value) : (w.setCell p v).frozen? a = w.frozen? a := World.frozen?_setCell w p a v

theorem cell_set_same (w : World) (p : Addr) (v : Value) (h : (w.cell? p).isSome = true) : (w.setCell p v).cell? p = some v := by
 obtain ⟨u, hu⟩ := Option.isSome_iff_exists.1 h
 exact World.cell?_setCell_same w p v hu

theorem RowAt.set {w : World} {g m : Nat} {f : Nat → Value} (h : RowAt w g m f) {o : Nat} (ho : o < m) (v : Value) : RowAt (w.setCell ⟨g, o, none⟩ v) g m (fun x => if x = o then v else f x) := by
 refine ⟨by have := h.1; simpa [World.setCell] using this, fun x hx => ⟨?_, by rw [frozen_setCell]; exact (h.2 x hx).2⟩⟩
 by_cases e : x = o
 ·subst e; simp only [if_true]; exact World.cell?_setCell_same w _ v (h.2 x hx).1
 ·simp only [if_neg e]; rw [World.cell?_setCell_other w _ _ v (by intro e2; exact e (by injection e2 with _ e3 _; exact e3.symm))]; exact (h.2 x hx).1

theorem RowAt.far {w : World} {g m : Nat} {f : Nat → Value} (h : RowAt w g m f) {p : Addr} (hp : p.block ≠ g) (v : Value) : RowAt (w.setCell p v) g m f :=
 ⟨by have := h.1; simpa [World.setCell] using this, fun x hx => ⟨by rw [World.cell?_setCell_other w p _ v (fun e => hp (by rw [e]))]; exact (h.2 x hx).1, by rw [frozen_setCell]; exact (h.2 x hx).2⟩⟩

theorem RowAt.new (w : World) (cs : Array Value) (t : TypeId) : RowAt (w.alloc (.cells cs t)) w.heap.size cs.size (fun o => cs.getD o undef) := by
 have hh : (w.alloc (.cells cs t)).heap[w.heap.size]? = some (.cells cs t) := by
  show (w.heap.push (.cells cs t))[w.heap.size]? = _
  simp
 refine ⟨by simp, fun o ho => ⟨?_, ?_⟩⟩
 ·unfold World.cell?; rw [hh]; simp [ho]
 ·unfold World.frozen?; rw [hh]; simp

theorem RowAt.alloc {w : World} {g m : Nat} {f : Nat → Value} (h : RowAt w g m f) (o : Obj) : RowAt (w.alloc o) g m f := h.below ((Below.refl _ _).alloc (Nat.le_refl _) o)

theorem RowAt.zero5 (w : World) (t : TypeId) (f : Nat → Value) (hf : ∀ o, f o = .int .i64 0) : RowAt (w.alloc (.cells #[.int .i64 0, .int .i64 0, .int .i64 0, .int .i64 0, .int .i64 0] t)) w.heap.size 5 f :=
 (RowAt.new w #[.int .i64 0, .int .i64 0, .int .i64 0, .int .i64 0, .int .i64 0] t).same fun o ho => by
  rw [hf]; match o, ho with
  | 0, _ => rfl
  | 1, _ => rfl
  | 2, _ => rfl
  | 3, _ => rfl
  | 4, _ => rfl

theorem RowAt.of_owns {w : World} {base : Nat} {e : TypeId} {size n cap g : Nat} {xs : List Value} (h : w.ownsRow base e size (.slice (some ⟨g, 0, none⟩) n cap) n xs) : RowAt w g (n * size) (fun o => xs.getD o undef) := by
 obtain ⟨hl, h2⟩ := h
 rcases h2 with ⟨h0, _⟩ | ⟨g', cap', cur, hv, _, hh, hn, _, hcs, ht⟩
 ·simp at h0
 ·simp at hv
  obtain ⟨rfl, rfl⟩ := hv
  have hlt : g < w.heap.size := by
   rcases Nat.lt_or_ge g w.heap.size with h | h
   ·exact h
   ·rw [Array.getElem?_eq_none h] at hh; cases hh
  refine ⟨hlt, fun o ho => ?_⟩
  have hle : n * size ≤ cap * size := Nat.mul_le_mul_right _ hn
  have ho2 : o < cur.size := by omega
  have hx : xs.getD o undef = cur[o] := by
   rw [← ht]; simp [List.getD, ho, ho2]
  constructor
  ·show _ = some (xs.getD o undef)
   rw [hx]; simp [World.cell?, hh, ho2]
  ·simp [World.frozen?, hh]

end Go.Proofs.YtgcinolbkllkkaaGreat
