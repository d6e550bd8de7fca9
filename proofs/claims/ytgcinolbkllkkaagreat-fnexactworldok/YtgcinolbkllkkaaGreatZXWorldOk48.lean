/-
  Texts of one proof, joined: OpenSpan, OpenUpd, OpenUpds.
-/
import Derived.Test.YtgcinolbkllkkaaGreatRows
import Derived.WalkKit
import Derived.ProofKit
import Derived.Deep.Strs
import Derived.Test.YtgcinolbkllkkaaGreatZXWorldOk04
import Derived.Deep.Slices
namespace Go.Proofs.YtgcinolbkllkkaaGreat
open Go.ChangeShapes Go.WideShapes Go.ChangeAt Go.RowKit
set_option maxRecDepth 100000
theorem span_cells {H : Type} {enc : TypeId × Value → H} {W : World} {base fuel : Nat} {spare : Nat → Bool} {held : Bool} {cs : List Value} {x : DataW H × List MemPlace}
  (h : DataW.trod enc Tryz.prog W base spare held fuel 197 cs = some x) :
  ∃ (a b : Int) (s : ByteArray) (c d : Int), cs = [.int .i64 a, .int .i64 b, .string s, .int .i64 c, .int .i64 d] ∧ s.size ≤ maxLen := by
 obtain ⟨xs, n, _, _, hl, hlen, hf⟩ := DataW.trod_struct Tryz.underlying197 h
 have hl5 : cs.length = 5 := hl.trans (by kernel_rfl)
 have hi : Tryz.prog.cellsOf 2 = 1 := by kernel_rfl
 have hs : Tryz.prog.cellsOf 9 = 1 := by kernel_rfl
 match xs, hlen, cs, hl5 with
 | [y0, y1, y2, y3, y4], _, [c0, c1, c2, c3, c4], _ =>
  have f0 := hf 0 _ rfl
  have f1 := hf 1 _ rfl
  have f2 := hf 2 _ rfl
  have f3 := hf 3 _ rfl
  have f4 := hf 4 _ rfl
  simp [hi, hs] at f0 f1 f2 f3 f4
  obtain ⟨a, e0, _, _⟩ := DataW.trod_int Tryz.underlying2 f0
  obtain ⟨b, e1, _, _⟩ := DataW.trod_int Tryz.underlying2 f1
  obtain ⟨s, e2, _, hs⟩ := DataW.trod_string Tryz.underlying9 f2
  obtain ⟨c, e3, _, _⟩ := DataW.trod_int Tryz.underlying2 f3
  obtain ⟨d, e4, _, _⟩ := DataW.trod_int Tryz.underlying2 f4
  simp at e0 e1 e2 e3 e4
  exact ⟨a, b, s, c, d, by rw [e0, e1, e2, e3, e4], hs⟩

end Go.Proofs.YtgcinolbkllkkaaGreat

namespace Go.Proofs.YtgcinolbkllkkaaGreat
open Go.ChangeShapes Go.WideShapes Go.ChangeAt Go.RowKit
set_option maxRecDepth 100000
theorem update_cells {H : Type} {enc : TypeId × Value → H} {W : World} {base fuel : Nat} {spare : Nat → Bool} {held : Bool} {cs : List Value} {x : DataW H × List MemPlace}
  (h : DataW.trod enc Tryz.prog W base spare held fuel 199 cs = some x) :
  ∃ (dr dn sw sc sr k tr id pa : Int) (s : ByteArray) (st en lv : Int), cs = [.int .i64 dr, .int .i64 dn, .int .i64 sw, .int .i64 sc, .int .i64 sr, .int .i64 k, .int .i64 tr, .int .i64 id, .int .i64 pa, .string s, .int .i64 st, .int .i64 en, .int .i64 lv] ∧ s.size ≤ maxLen := by
 obtain ⟨xs, n, _, _, hl, hlen, hf⟩ := DataW.trod_struct Tryz.underlying199 h
 have hl13 : cs.length = 13 := hl.trans (by kernel_rfl)
 have hi : Tryz.prog.cellsOf 2 = 1 := by kernel_rfl
 have hd : Tryz.prog.cellsOf 196 = 2 := by kernel_rfl
 have ht : Tryz.prog.cellsOf 131 = 3 := by kernel_rfl
 have hp : Tryz.prog.cellsOf 197 = 5 := by kernel_rfl
 match xs, hlen, cs, hl13 with
 | [y0, y1, y2, y3, y4, y5], _, [c0, c1, c2, c3, c4, c5, c6, c7, c8, c9, ca, cb, cc], _ =>
  have f0 := hf 0 _ rfl
  have f1 := hf 1 _ rfl
  have f2 := hf 2 _ rfl
  have f3 := hf 3 _ rfl
  have f4 := hf 4 _ rfl
  have f5 := hf 5 _ rfl
  simp [hi, hd, ht, hp] at f0 f1 f2 f3 f4 f5
  obtain ⟨z0, z1, n0, _, _, g0, g1⟩ := trod_struct2 Tryz.underlying196 f0
  obtain ⟨z2, z3, z4, n1, _, _, g2, g3, g4⟩ := Deep.trod_struct3 Tryz.underlying131 f1
  simp [hi] at g0 g1 g2 g3 g4
  obtain ⟨dr, e0, _, _⟩ := DataW.trod_int Tryz.underlying2 g0
  obtain ⟨dn, e1, _, _⟩ := DataW.trod_int Tryz.underlying2 g1
  obtain ⟨sw, e2, _, _⟩ := DataW.trod_int Tryz.underlying2 g2
  obtain ⟨sc, e3, _, _⟩ := DataW.trod_int Tryz.underlying2 g3
  obtain ⟨sr, e4, _, _⟩ := DataW.trod_int Tryz.underlying2 g4
  obtain ⟨k, e5, _, _⟩ := DataW.trod_int Tryz.underlying2 f2
  obtain ⟨tr, e6, _, _⟩ := DataW.trod_int Tryz.underlying2 f3
  obtain ⟨id, pa, s, st, en, e7, hs⟩ := span_cells f4
  obtain ⟨lv, e8, _, _⟩ := DataW.trod_int Tryz.underlying2 f5
  simp at e0 e1 e2 e3 e4 e5 e6 e7 e8
  obtain ⟨q0, q1, q2, q3, q4⟩ := e7
  exact ⟨dr, dn, sw, sc, sr, k, tr, id, pa, s, st, en, lv, by rw [e0, e1, e2, e3, e4, e5, e6, q0, q1, q2, q3, q4, e8], hs⟩

end Go.Proofs.YtgcinolbkllkkaaGreat

namespace Go.Proofs.YtgcinolbkllkkaaGreat
open Go.ChangeShapes Go.WideShapes Go.ChangeAt Go.RowKit
set_option maxRecDepth 100000
theorem open_updates {H : Type} {enc : TypeId × Value → H} {W : World} {fuel len cap : Nat} {a : Option Addr} {x : DataW H × List MemPlace}
  (hf : DataW.trod enc Tryz.prog W 0 (fun _ => true) true fuel 132 (Value.slice a len cap).cells.toList = some x) :
  ∃ us, IsUpds W a len cap us := by
 rcases Deep.open_slice Tryz.underlying132 hf with ⟨hcs, _⟩ | ⟨c, l, k, m, n, D, Pl, hcs, _, hl, hm, hmm, hx, hall⟩
 ·simp [Value.cells] at hcs
  obtain ⟨rfl, rfl, rfl⟩ := hcs
  exact ⟨[], ⟨rfl, Nat.le_refl _, Nat.zero_le _, fun i hi => absurd hi (Nat.not_lt_zero _), Or.inl rfl⟩⟩
 ·simp [Value.cells] at hcs
  obtain ⟨rfl, rfl, rfl⟩ := hcs
  have hmm' : m = cap := by simpa using hmm
  subst hmm'
  have hce : Tryz.prog.cellsOf 199 = 13 := by kernel_rfl
  have each : ∀ i, i < len → ∃ u : M1.Upd, u.s.size ≤ maxLen ∧ ∀ j v, (ucs u)[j]? = some v → W.cell? (c.add (i * 13 + j)) = some v := fun i hi => by
   obtain ⟨cs', h1, h2⟩ := hall i (by omega)
   rw [hce] at h1
   obtain ⟨_, hlen, hcell⟩ := World.cells?_some h1
   obtain ⟨dr, dn, sw, sc, sr, k, tr, id, pa, s, st, en, lv, e, hs⟩ := update_cells h2
   subst e
   refine ⟨⟨dr, dn, sw, sc, sr, k, tr, id, pa, s, st, en, lv⟩, hs, fun j v hv => ?_⟩
   have hj : j < 13 := by
    have := (List.getElem?_eq_some_iff.1 hv).1
    simpa [ucs] using this
   have := hcell j (by simpa using hj)
   rw [Deep.add_add] at this
   rw [this]
   exact hv
  obtain ⟨f, hf⟩ : ∃ f : Nat → M1.Upd, ∀ i, i < len → (f i).s.size ≤ maxLen ∧ ∀ j v, (ucs (f i))[j]? = some v → W.cell? (c.add (i * 13 + j)) = some v := by
   refine ⟨fun i => if h : i < len then Classical.choose (each i h) else M1.zeroU, fun i hi => ?_⟩
   simp only [dif_pos hi]
   exact Classical.choose_spec (each i hi)
  have hup : ∀ i, i < len → M1.up ((List.range len).map f) i = f i := fun i hi => by simp [M1.up, List.getD, hi]
  refine ⟨(List.range len).map f, ⟨by simp, hl, hm, fun i hi => by rw [hup i hi]; exact (hf i hi).1, ?_⟩⟩
  rcases Nat.eq_zero_or_pos len with h0 | h0
  ·exact Or.inl h0
  ·right
   obtain ⟨b, off, spot⟩ := c
   have h00 := (hf 0 h0).2 0 _ rfl
   have hspot : spot = none := by simpa [Addr.add] using World.cell?_spot h00
   subst hspot
   refine ⟨b, off, rfl, ?_, fun i hi => ?_⟩
   ·exact World.block_lt_of_cell? W _ (by simpa [Addr.add] using h00)
   ·rw [hup i hi]
    have key : ∀ j v, (ucs (f i))[j]? = some v → W.cell? ⟨b, off + i * 13 + j, none⟩ = some v := fun j v hv => by
     rw [Nat.add_assoc, ← Go.WideShapes.add_plain]
     exact (hf i hi).2 j v hv
    exact ⟨key 0 _ rfl, key 1 _ rfl, key 2 _ rfl, key 3 _ rfl, key 4 _ rfl, key 5 _ rfl, key 6 _ rfl, key 7 _ rfl, key 8 _ rfl, key 9 _ rfl, key 10 _ rfl, key 11 _ rfl, key 12 _ rfl⟩

end Go.Proofs.YtgcinolbkllkkaaGreat
