/-
  Contracts of the reader's vec, of DrawVecJoin and DrawCovers, and of the laws' sameVec.
-/
import Derived.Test.YtnchbndgdkhldaaZSpans28
import Derived.Test.YtnchbndgdkhldaaZSpans02
namespace Go.Proofs.Ytnchbndgdkhldaa
open Go.ChangeShapes Go.WideShapes Go.ChangeAt Go.RowKit
set_option linter.unusedSimpArgs false

theorem gr_grown {g : Nat} {w a b : World} {row : Option Nat} (h : Gr g w a) (hg : a.grownBy b row) (hrow : ∀ k, row = some k → w.heap.size ≤ k) : Gr g w b :=
  ⟨hg.os.trans h.os, hg.tape.trans h.tape, hg.output.trans h.output, Nat.le_trans h.size hg.size, fun i hi hn => (hg.block i (Nat.lt_of_lt_of_le hi h.size) (fun e => by have := hrow i e.symm; omega)).trans (h.block i hi hn)⟩
theorem grown_cell {w a b : World} {row : Option Nat} (hs : w.heap.size ≤ a.heap.size) (hg : a.grownBy b row) (hrow : ∀ k, row = some k → w.heap.size ≤ k) {k : Nat} (hk : k < w.heap.size) (o : Nat) : b.cell? ⟨k, o, none⟩ = a.cell? ⟨k, o, none⟩ ∧ b.frozen? ⟨k, o, none⟩ = a.frozen? ⟨k, o, none⟩ :=
  have e := hg.block k (Nat.lt_of_lt_of_le hk hs) (fun e => by have := hrow k e.symm; omega)
  ⟨World.cell?_of_block (w := a) e, World.frozen?_of_block (w := a) e⟩
theorem Rdr.grown {w a b : World} {row : Option Nat} {g : Nat} {av : Option Addr} {len cap : Nat} (h0 : Rdr w g av len cap) (h : Rdr a g av len cap) (hs : w.heap.size ≤ a.heap.size) (hg : a.grownBy b row) (hrow : ∀ k, row = some k → w.heap.size ≤ k) : Rdr b g av len cap := by
  have key := fun k (hk : k < w.heap.size) o => grown_cell hs hg hrow hk o
  obtain ⟨p, hp, h1⟩ := h.c1
  refine ⟨Nat.lt_of_lt_of_le h.lt hg.size, (key g h0.lt 0).1.trans h.c0, ⟨p, hp, (key g h0.lt 1).1.trans h1⟩, (key g h0.lt 0).2.trans h.f0, (key g h0.lt 1).2.trans h.f1, h.hc, h.hm, ?_⟩
  rcases h0.lies with e0 | ⟨b0, off0, e, hlt, hn, _⟩
  · exact Or.inl e0
  · rcases h.lies with e1 | ⟨b1, off1, e', _, _, hz⟩
    · exact Or.inl e1
    · rw [e] at e'
      injection e' with e'
      injection e' with e1 e2 _
      subst e1 e2
      exact Or.inr ⟨b0, off0, e, by have := hg.size; omega, hn, fun i hi => let ⟨z, h2, h3⟩ := hz i hi; ⟨z, (key b0 hlt _).1.trans h2, h3⟩⟩
theorem owns_gr {w w' : World} {base g : Nat} {e : TypeId} {size n : Nat} {v : Value} {xs : List Value} (h : w.ownsRow base e size v n xs) (hg : Gr g w w') (hb : g < base) : w'.ownsRow base e size v n xs := by
  obtain ⟨h1, h2⟩ := h
  refine ⟨h1, h2.imp id fun ⟨k, cap, cur, hv, hk, hh, r⟩ => ⟨k, cap, cur, hv, hk, ?_, r⟩⟩
  have hlt : k < w.heap.size := by
    rcases Nat.lt_or_ge k w.heap.size with h | h
    · exact h
    · rw [Array.getElem?_eq_none h] at hh; cases hh
  rw [hg.block k hlt (fun e => by injection e with e; omega)]; exact hh
theorem MV.gr {w w' : World} {av : Option Addr} {n cap lo hi g : Nat} {f : Nat → Value} (h : MV w av n cap lo hi f) (hg : Gr g w w') (hb : g < lo) : MV w' av n cap lo hi f :=
  ⟨h.1, h.2.1, h.2.2.imp id fun ⟨k, e, h1, h2, r⟩ => ⟨k, e, h1, h2, r.gr hg (by omega)⟩⟩
theorem MV.wide {w : World} {av : Option Addr} {n cap lo hi lo' hi' : Nat} {f : Nat → Value} (h : MV w av n cap lo hi f) (h1 : lo' ≤ lo) (h2 : hi ≤ hi') : MV w av n cap lo' hi' f :=
  ⟨h.1, h.2.1, h.2.2.imp id fun ⟨k, e, h3, h4, r⟩ => ⟨k, e, by omega, by omega, r⟩⟩

end Go.Proofs.Ytnchbndgdkhldaa
