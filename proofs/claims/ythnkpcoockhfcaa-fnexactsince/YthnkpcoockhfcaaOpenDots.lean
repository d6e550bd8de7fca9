/-
  A slice of dots that came in, opened: its elements as a list of pairs of numbers.
-/
import Derived.Test.YthnkpcoockhfcaaVec1
import Derived.Deep.SlicePairs
namespace Go.Proofs.Ythnkpcoockhfcaa
open Go.ChangeShapes Go.WideShapes Go.ChangeAt Go.RowKit

theorem open_dots {H : Type} {enc : TypeId × Value → H} {W : World} {fuel len cap : Nat} {a : Option Addr} {x : DataW H × List MemPlace}
    (hf : DataW.trod enc Try.prog W 0 (fun _ => true) true fuel 55 (Value.slice a len cap).cells.toList = some x) :
    ∃ ds, IsVec W a len cap ds := by
  rcases Deep.open_slice_pairs Try.underlying55 Try.underlying82 (by kernel_rfl) rfl rfl (by kernel_rfl) (by kernel_rfl) hf with ⟨hcs, _⟩ | ⟨c, l, k, m, n, V0, V1, D0, D1, P0, P1, hcs, _, hl, hm, hmm, hx, hall⟩
  · simp [Value.cells] at hcs
    obtain ⟨rfl, rfl, rfl⟩ := hcs
    exact ⟨[], ⟨rfl, Nat.le_refl _, Nat.zero_le _, Or.inl rfl⟩⟩
  · simp [Value.cells] at hcs
    obtain ⟨rfl, rfl, rfl⟩ := hcs
    have hmm' : m = cap := by simpa using hmm
    subst hmm'
    refine ⟨(List.range len).map fun i => (intOf (V0 i), intOf (V1 i)), ⟨by simp, hl, hm, ?_⟩⟩
    rcases Nat.eq_zero_or_pos len with h0 | h0
    · exact Or.inl h0
    · right
      obtain ⟨b, off, spot⟩ := c
      have h00 := (hall 0 (by omega)).1
      have hspot : spot = none := by simpa [Addr.add] using World.cell?_spot h00
      subst hspot
      refine ⟨b, off, rfl, ?_, fun i hi => ?_⟩
      · exact World.block_lt_of_cell? W _ (by simpa [Addr.add] using h00)
      · obtain ⟨p0, p1, p2, p3⟩ := hall i (by omega)
        obtain ⟨x0, e0, _, _⟩ := DataW.trod_int Try.underlying2 p2
        obtain ⟨x1, e1, _, _⟩ := DataW.trod_int Try.underlying2 p3
        simp at e0 e1
        have r0 : M1.rg ((List.range len).map fun i => (intOf (V0 i), intOf (V1 i))) i = x0 := by
          simp [M1.rg, List.getD, hi, e0, intOf]
        have r1 : M1.nm ((List.range len).map fun i => (intOf (V0 i), intOf (V1 i))) i = x1 := by
          simp [M1.nm, List.getD, hi, e1, intOf]
        rw [r0, r1, ← e0, ← e1, ← Go.WideShapes.add_plain, Nat.add_assoc, ← Go.WideShapes.add_plain]
        exact ⟨p0, p1⟩
end Go.Proofs.Ythnkpcoockhfcaa
