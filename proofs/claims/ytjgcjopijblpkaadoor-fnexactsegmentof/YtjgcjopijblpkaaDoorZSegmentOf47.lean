/-
  An update that came in, opened: twelve numbers and a text.
-/
import Derived.Test.YtjgcjopijblpkaaDoorZSegmentOf46
import Derived.Deep.Strs
namespace Go.Proofs.YtjgcjopijblpkaaDoor
open Go.ChangeShapes Go.WideShapes Go.ChangeAt Go.RowKit
set_option maxRecDepth 100000

theorem update_cells {H : Type} {enc : TypeId × Value → H} {W : World} {base fuel : Nat} {spare : Nat → Bool} {held : Bool} {cs : List Value} {x : DataW H × List MemPlace}
    (h : DataW.trod enc Tryd.prog W base spare held fuel 42 cs = some x) :
    ∃ (dr dn sw sc sr k tr id pa : Int) (s : ByteArray) (st en lv : Int), cs = [.int .i64 dr, .int .i64 dn, .int .i64 sw, .int .i64 sc, .int .i64 sr, .int .i64 k, .int .i64 tr, .int .i64 id, .int .i64 pa, .string s, .int .i64 st, .int .i64 en, .int .i64 lv] ∧ s.size ≤ maxLen := by
  obtain ⟨xs, n, _, _, hl, hlen, hf⟩ := DataW.trod_struct Tryd.underlying42 h
  have hl13 : cs.length = 13 := hl.trans (by kernel_rfl)
  have hi : Tryd.prog.cellsOf 2 = 1 := by kernel_rfl
  have hd : Tryd.prog.cellsOf 38 = 2 := by kernel_rfl
  have ht : Tryd.prog.cellsOf 39 = 3 := by kernel_rfl
  have hp : Tryd.prog.cellsOf 40 = 5 := by kernel_rfl
  match xs, hlen, cs, hl13 with
  | [y0, y1, y2, y3, y4, y5], _, [c0, c1, c2, c3, c4, c5, c6, c7, c8, c9, ca, cb, cc], _ =>
    have f0 := hf 0 _ rfl
    have f1 := hf 1 _ rfl
    have f2 := hf 2 _ rfl
    have f3 := hf 3 _ rfl
    have f4 := hf 4 _ rfl
    have f5 := hf 5 _ rfl
    simp [hi, hd, ht, hp] at f0 f1 f2 f3 f4 f5
    obtain ⟨z0, z1, n0, _, _, g0, g1⟩ := trod_struct2 Tryd.underlying38 f0
    obtain ⟨z2, z3, z4, n1, _, _, g2, g3, g4⟩ := Deep.trod_struct3 Tryd.underlying39 f1
    simp [hi] at g0 g1 g2 g3 g4
    obtain ⟨dr, e0, _, _⟩ := DataW.trod_int Tryd.underlying2 g0
    obtain ⟨dn, e1, _, _⟩ := DataW.trod_int Tryd.underlying2 g1
    obtain ⟨sw, e2, _, _⟩ := DataW.trod_int Tryd.underlying2 g2
    obtain ⟨sc, e3, _, _⟩ := DataW.trod_int Tryd.underlying2 g3
    obtain ⟨sr, e4, _, _⟩ := DataW.trod_int Tryd.underlying2 g4
    obtain ⟨k, e5, _, _⟩ := DataW.trod_int Tryd.underlying2 f2
    obtain ⟨tr, e6, _, _⟩ := DataW.trod_int Tryd.underlying2 f3
    obtain ⟨id, pa, s, st, en, e7, hs⟩ := span_cells f4
    obtain ⟨lv, e8, _, _⟩ := DataW.trod_int Tryd.underlying2 f5
    simp at e0 e1 e2 e3 e4 e5 e6 e7 e8
    obtain ⟨q0, q1, q2, q3, q4⟩ := e7
    exact ⟨dr, dn, sw, sc, sr, k, tr, id, pa, s, st, en, lv, by rw [e0, e1, e2, e3, e4, e5, e6, q0, q1, q2, q3, q4, e8], hs⟩

theorem open_update {H : Type} {enc : TypeId × Value → H} {W : World} {base b0 : Nat} {spare : Nat → Bool} {held : Bool} {r : Reach} {v : Value} {d : DataW H} {p : List MemPlace}
    (hv : Value.okWide Tryd.prog W r b0 42 v) (h : DataW.Trod enc Tryd.prog W base spare held 42 v d p) :
    ∃ (dr dn sw sc sr k tr id pa st en lv : Int) (s : ByteArray), v = .agg #[.int .i64 dr, .int .i64 dn, .int .i64 sw, .int .i64 sc, .int .i64 sr, .int .i64 k, .int .i64 tr, .int .i64 id, .int .i64 pa, .string s, .int .i64 st, .int .i64 en, .int .i64 lv] ∧ s.size ≤ maxLen := by
  obtain ⟨cs, rfl, _⟩ := okWide_struct Tryd.underlying42 hv
  obtain ⟨fuel, hf⟩ := h
  obtain ⟨dr, dn, sw, sc, sr, k, tr, id, pa, s, st, en, lv, hc, hs⟩ := update_cells hf
  refine ⟨dr, dn, sw, sc, sr, k, tr, id, pa, st, en, lv, s, ?_, hs⟩
  have : cs.toList = [.int .i64 dr, .int .i64 dn, .int .i64 sw, .int .i64 sc, .int .i64 sr, .int .i64 k, .int .i64 tr, .int .i64 id, .int .i64 pa, .string s, .int .i64 st, .int .i64 en, .int .i64 lv] := by simpa [Value.cells] using hc
  rw [← this]
end Go.Proofs.YtjgcjopijblpkaaDoor
