/-
  A slice of updates that came in, opened.
-/
import Derived.Test.YtjgcjopijblpkaaDoorZSegmentOf29
import Derived.Test.YtjgcjopijblpkaaDoorZSegmentOf47
import Derived.Deep.Slices
namespace Go.Proofs.YtjgcjopijblpkaaDoor
open Go.ChangeShapes Go.WideShapes Go.ChangeAt Go.RowKit
set_option maxRecDepth 100000

theorem open_updates {H : Type} {enc : TypeId × Value → H} {W : World} {fuel len cap : Nat} {a : Option Addr} {x : DataW H × List MemPlace}
    (hf : DataW.trod enc Tryd.prog W 0 (fun _ => true) true fuel 48 (Value.slice a len cap).cells.toList = some x) :
    ∃ us, IsUpds W a len cap us := by
  rcases Deep.open_slice Tryd.underlying48 hf with ⟨hcs, _⟩ | ⟨c, l, k, m, n, D, Pl, hcs, _, hl, hm, hmm, hx, hall⟩
  · simp [Value.cells] at hcs
    obtain ⟨rfl, rfl, rfl⟩ := hcs
    exact ⟨[], ⟨rfl, Nat.le_refl _, Nat.zero_le _, fun i hi => absurd hi (Nat.not_lt_zero _), Or.inl rfl⟩⟩
  · simp [Value.cells] at hcs
    obtain ⟨rfl, rfl, rfl⟩ := hcs
    have hmm' : m = cap := by simpa using hmm
    subst hmm'
    have hce : Tryd.prog.cellsOf 42 = 13 := by kernel_rfl
    have each : ∀ i, i < len → ∃ u : M1.Upd, u.s.size ≤ maxLen ∧ ∀ j v, (ucs u)[j]? = some v → W.cell? (c.add (i * 13 + j)) = some v := fun i hi => by
      obtain ⟨cs', h1, h2⟩ := hall i (by omega)
      rw [hce] at h1
      obtain ⟨_, hlen, hcell⟩ := World.cells?_some h1
      obtain ⟨dr, dn, sw, sc, sr, k, tr, id, pa, s, st, en, lv, e, hs⟩ := update_cells h2
      subst e
      refine ⟨⟨dr, dn, sw, sc, sr, k, tr, id, pa, s, st, en, lv⟩, hs, fun j v hv => ?_⟩
      have hj : j < 13 := by
        have := (List.getElem?_eq_some_iff.1 hv).1
        simpa [ucs] using this
      have := hcell j (by simpa using hj)
      rw [Deep.add_add] at this
      rw [this]
      exact hv
    obtain ⟨f, hf⟩ : ∃ f : Nat → M1.Upd, ∀ i, i < len → (f i).s.size ≤ maxLen ∧ ∀ j v, (ucs (f i))[j]? = some v → W.cell? (c.add (i * 13 + j)) = some v := by
      refine ⟨fun i => if h : i < len then Classical.choose (each i h) else M1.zeroU, fun i hi => ?_⟩
      simp only [dif_pos hi]
      exact Classical.choose_spec (each i hi)
    have hup : ∀ i, i < len → M1.up ((List.range len).map f) i = f i := fun i hi => by simp [M1.up, List.getD, hi]
    refine ⟨(List.range len).map f, ⟨by simp, hl, hm, fun i hi => by rw [hup i hi]; exact (hf i hi).1, ?_⟩⟩
    rcases Nat.eq_zero_or_pos len with h0 | h0
    · exact Or.inl h0
    · right
      obtain ⟨b, off, spot⟩ := c
      have h00 := (hf 0 h0).2 0 _ rfl
      have hspot : spot = none := by simpa [Addr.add] using World.cell?_spot h00
      subst hspot
      refine ⟨b, off, rfl, ?_, fun i hi => ?_⟩
      · exact World.block_lt_of_cell? W _ (by simpa [Addr.add] using h00)
      · rw [hup i hi]
        have key : ∀ j v, (ucs (f i))[j]? = some v → W.cell? ⟨b, off + i * 13 + j, none⟩ = some v := fun j v hv => by
          rw [Nat.add_assoc, ← Go.WideShapes.add_plain]
          exact (hf i hi).2 j v hv
        exact ⟨key 0 _ rfl, key 1 _ rfl, key 2 _ rfl, key 3 _ rfl, key 4 _ rfl, key 5 _ rfl, key 6 _ rfl, key 7 _ rfl, key 8 _ rfl, key 9 _ rfl, key 10 _ rfl, key 11 _ rfl, key 12 _ rfl⟩
end Go.Proofs.YtjgcjopijblpkaaDoor
