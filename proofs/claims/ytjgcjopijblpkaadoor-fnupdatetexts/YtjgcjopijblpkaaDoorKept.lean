/-
  Small laws of my own on worlds: what was there is kept, for regions that leave their order open.
-/
import Derived.WalkKit
import Derived.Below
namespace Go.Proofs.YtjgcjopijblpkaaDoor
open Go.RowKit

/-- From W0 on nothing below its end has turned: as a fact, and as rules for the walk. -/
abbrev Kp (W0 w' : World) : Prop := Below W0.heap.size W0 w' ∧ (∀ b o, b < W0.heap.size → w'.cell? ⟨b, o, none⟩ = W0.cell? ⟨b, o, none⟩)

theorem kp_of {W0 w' : World} (h : Below W0.heap.size W0 w') : Kp W0 w' := ⟨h, fun b o hb => h.cell (p := ⟨b, o, none⟩) hb⟩
theorem kp_zero (W0 : World) : Kp W0 W0.drew := kp_of (Below.refl _ _).drew
theorem kp_drew {W0 w1 : World} (h : Kp W0 w1) : Kp W0 w1.drew := kp_of h.1.drew
theorem kp_step {W0 w1 w2 : World} (h : Kp W0 w1) (hb : Below w1.heap.size w1 w2) : Kp W0 w2 := kp_of (h.1.trans (hb.mono h.1.size))

theorem bcell {W w1 : World} (hb : Below W.heap.size W w1) : (∀ b o, b < W.heap.size → w1.cell? ⟨b, o, none⟩ = W.cell? ⟨b, o, none⟩) ∧ (∀ b o, b < W.heap.size → w1.frozen? ⟨b, o, none⟩ = W.frozen? ⟨b, o, none⟩) :=
  ⟨fun b o h => hb.cell (p := ⟨b, o, none⟩) h, fun b o h => hb.frozen (p := ⟨b, o, none⟩) h⟩

/-- The same, and that what was a block's number below the end is so still: rules for the walk. -/
theorem brules {W w1 : World} (hb : Below W.heap.size W w1) : (∀ b o, b < W.heap.size → w1.cell? ⟨b, o, none⟩ = W.cell? ⟨b, o, none⟩) ∧ (∀ b o, b < W.heap.size → w1.frozen? ⟨b, o, none⟩ = W.frozen? ⟨b, o, none⟩) ∧ (∀ n, n < W.heap.size → n < w1.heap.size) ∧ (∀ n, n < W.heap.size → ¬ n = w1.heap.size) :=
  ⟨fun b o h => hb.cell (p := ⟨b, o, none⟩) h, fun b o h => hb.frozen (p := ⟨b, o, none⟩) h, fun n h => Nat.lt_of_lt_of_le h hb.size, fun n h => by have := hb.size; omega⟩

theorem cum {A w1 w2 : World} (h1 : Below A.heap.size A w1) (h2 : Below w1.heap.size w1 w2) : Below A.heap.size A w2 := h1.trans (h2.mono h1.size)
theorem kp_alloc {W0 w1 : World} (h : Kp W0 w1) (o : Obj) : Kp W0 (w1.alloc o) := kp_of (h.1.alloc h.1.size o)
theorem kp_realloc {W0 w1 : World} {o : Obj} (h : Kp W0 (w1.alloc o)) (hs : W0.heap.size ≤ w1.heap.size) (o' : Obj) : Kp W0 (w1.alloc o') :=
  kp_of ⟨h.1.os, h.1.tape, h.1.output, by simp; omega, fun k hk => by
    have := h.1.block k hk
    rw [Below.heap_alloc w1 o k (by omega)] at this
    rw [Below.heap_alloc w1 o' k (by omega)]; exact this⟩
theorem kp_set {W0 w1 : World} (h : Kp W0 w1) (p : Addr) (v : Value) (hp : W0.heap.size ≤ p.block) : Kp W0 (w1.setCell p v) := kp_of (h.1.setCell hp v)
end Go.Proofs.YtjgcjopijblpkaaDoor
