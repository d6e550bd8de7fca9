/-
  Texts of one proof, joined: OpenReg, OpenDots.
-/
import Derived.Test.YtgcinolbkllkkaaGreatZXWorldOk48
import Derived.Test.YtgcinolbkllkkaaGreatZXWorldOk02
import Derived.Deep.SlicePairs
namespace Go.Proofs.YtgcinolbkllkkaaGreat
open Go.ChangeShapes Go.WideShapes Go.ChangeAt Go.RowKit
set_option maxRecDepth 100000
theorem region_cells {H : Type} {enc : TypeId × Value → H} {W : World} {fuel : Nat} {cs : List Value} {x : DataW H × List MemPlace}
  (h : DataW.trod enc Tryz.prog W 0 (fun _ => true) true fuel 134 cs = some x) :
  ∃ (id a b c : Int) (av : Option Addr) (n cap : Nat) (us : List M1.Upd), cs = [.int .i64 id, .int .i64 a, .int .i64 b, .int .i64 c, .slice av n cap] ∧ IsUpds W av n cap us := by
 obtain ⟨xs, n, _, _, hl, hlen, hf⟩ := DataW.trod_struct Tryz.underlying134 h
 have hl5 : cs.length = 5 := hl.trans (by kernel_rfl)
 have hi : Tryz.prog.cellsOf 2 = 1 := by kernel_rfl
 have ht : Tryz.prog.cellsOf 131 = 3 := by kernel_rfl
 have hu : Tryz.prog.cellsOf 132 = 1 := by kernel_rfl
 match xs, hlen, cs, hl5 with
 | [y0, y1, y2], _, [c0, c1, c2, c3, c4], _ =>
  have f0 := hf 0 _ rfl
  have f1 := hf 1 _ rfl
  have f2 := hf 2 _ rfl
  simp [hi, ht, hu] at f0 f1 f2
  obtain ⟨z2, z3, z4, n1, _, _, g2, g3, g4⟩ := Deep.trod_struct3 Tryz.underlying131 f1
  simp [hi] at g2 g3 g4
  obtain ⟨id, e0, _, _⟩ := DataW.trod_int Tryz.underlying2 f0
  obtain ⟨a, e1, _, _⟩ := DataW.trod_int Tryz.underlying2 g2
  obtain ⟨b, e2, _, _⟩ := DataW.trod_int Tryz.underlying2 g3
  obtain ⟨c, e3, _, _⟩ := DataW.trod_int Tryz.underlying2 g4
  simp at e0 e1 e2 e3
  have hs : ∃ av l k, c4 = .slice av l k := by
   rcases Deep.open_slice Tryz.underlying132 f2 with ⟨hcs, _⟩ | ⟨y, l, k, m, n, D, Pl, hcs, _⟩
   ·simp at hcs; exact ⟨_, _, _, hcs⟩
   ·simp at hcs; exact ⟨_, _, _, hcs⟩
  obtain ⟨av, l, k, rfl⟩ := hs
  obtain ⟨us, hus⟩ := open_updates (a := av) (len := l) (cap := k) f2
  exact ⟨id, a, b, c, av, l, k, us, by rw [e0, e1, e2, e3], hus⟩

end Go.Proofs.YtgcinolbkllkkaaGreat

namespace Go.Proofs.YtgcinolbkllkkaaGreat
open Go.ChangeShapes Go.WideShapes Go.ChangeAt Go.RowKit
set_option maxRecDepth 100000
theorem open_dots {H : Type} {enc : TypeId × Value → H} {W : World} {fuel len cap : Nat} {a : Option Addr} {x : DataW H × List MemPlace}
  (hf : DataW.trod enc Tryz.prog W 0 (fun _ => true) true fuel 136 (Value.slice a len cap).cells.toList = some x) :
  ∃ ds, IsVec W a len cap ds := by
 rcases Deep.open_slice_pairs Tryz.underlying136 Tryz.underlying196 (by kernel_rfl) rfl rfl (by kernel_rfl) (by kernel_rfl) hf with ⟨hcs, _⟩ | ⟨c, l, k, m, n, V0, V1, D0, D1, P0, P1, hcs, _, hl, hm, hmm, hx, hall⟩
 ·simp [Value.cells] at hcs
  obtain ⟨rfl, rfl, rfl⟩ := hcs
  exact ⟨[], ⟨rfl, Nat.le_refl _, Nat.zero_le _, Or.inl rfl⟩⟩
 ·simp [Value.cells] at hcs
  obtain ⟨rfl, rfl, rfl⟩ := hcs
  have hmm' : m = cap := by simpa using hmm
  subst hmm'
  refine ⟨(List.range len).map fun i => (intOf (V0 i), intOf (V1 i)), ⟨by simp, hl, hm, ?_⟩⟩
  rcases Nat.eq_zero_or_pos len with h0 | h0
  ·exact Or.inl h0
  ·right
   obtain ⟨b, off, spot⟩ := c
   have h00 := (hall 0 (by omega)).1
   have hspot : spot = none := by simpa [Addr.add] using World.cell?_spot h00
   subst hspot
   refine ⟨b, off, rfl, ?_, fun i hi => ?_⟩
   ·exact World.block_lt_of_cell? W _ (by simpa [Addr.add] using h00)
   ·obtain ⟨p0, p1, p2, p3⟩ := hall i (by omega)
    obtain ⟨x0, e0, _, _⟩ := DataW.trod_int Tryz.underlying2 p2
    obtain ⟨x1, e1, _, _⟩ := DataW.trod_int Tryz.underlying2 p3
    simp at e0 e1
    have r0 : M1.rg ((List.range len).map fun i => (intOf (V0 i), intOf (V1 i))) i = x0 := by
     simp [M1.rg, List.getD, hi, e0, intOf]
    have r1 : M1.nm ((List.range len).map fun i => (intOf (V0 i), intOf (V1 i))) i = x1 := by
     simp [M1.nm, List.getD, hi, e1, intOf]
    rw [r0, r1, ← e0, ← e1, ← Go.WideShapes.add_plain, Nat.add_assoc, ← Go.WideShapes.add_plain]
    exact ⟨p0, p1⟩

end Go.Proofs.YtgcinolbkllkkaaGreat
