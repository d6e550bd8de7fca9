/-
  A span that came in, opened: four numbers and a text.
-/
import Derived.Test.YtjgcjopijblpkaaDoorRows
import Derived.WalkKit
import Derived.ProofKit
namespace Go.Proofs.YtjgcjopijblpkaaDoor
open Go.ChangeShapes Go.WideShapes Go.ChangeAt Go.RowKit
set_option maxRecDepth 100000

theorem span_cells {H : Type} {enc : TypeId × Value → H} {W : World} {base fuel : Nat} {spare : Nat → Bool} {held : Bool} {cs : List Value} {x : DataW H × List MemPlace}
    (h : DataW.trod enc Tryd.prog W base spare held fuel 40 cs = some x) :
    ∃ (a b : Int) (s : ByteArray) (c d : Int), cs = [.int .i64 a, .int .i64 b, .string s, .int .i64 c, .int .i64 d] ∧ s.size ≤ maxLen := by
  obtain ⟨xs, n, _, _, hl, hlen, hf⟩ := DataW.trod_struct Tryd.underlying40 h
  have hl5 : cs.length = 5 := hl.trans (by kernel_rfl)
  have hi : Tryd.prog.cellsOf 2 = 1 := by kernel_rfl
  have hs : Tryd.prog.cellsOf 9 = 1 := by kernel_rfl
  match xs, hlen, cs, hl5 with
  | [y0, y1, y2, y3, y4], _, [c0, c1, c2, c3, c4], _ =>
    have f0 := hf 0 _ rfl
    have f1 := hf 1 _ rfl
    have f2 := hf 2 _ rfl
    have f3 := hf 3 _ rfl
    have f4 := hf 4 _ rfl
    simp [hi, hs] at f0 f1 f2 f3 f4
    obtain ⟨a, e0, _, _⟩ := DataW.trod_int Tryd.underlying2 f0
    obtain ⟨b, e1, _, _⟩ := DataW.trod_int Tryd.underlying2 f1
    obtain ⟨s, e2, _, hs⟩ := DataW.trod_string Tryd.underlying9 f2
    obtain ⟨c, e3, _, _⟩ := DataW.trod_int Tryd.underlying2 f3
    obtain ⟨d, e4, _, _⟩ := DataW.trod_int Tryd.underlying2 f4
    simp at e0 e1 e2 e3 e4
    exact ⟨a, b, s, c, d, by rw [e0, e1, e2, e3, e4], hs⟩

theorem open_span {H : Type} {enc : TypeId × Value → H} {W : World} {base b0 : Nat} {spare : Nat → Bool} {held : Bool} {r : Reach} {v : Value} {d : DataW H} {p : List MemPlace}
    (hv : Value.okWide Tryd.prog W r b0 40 v) (h : DataW.Trod enc Tryd.prog W base spare held 40 v d p) :
    ∃ (a b : Int) (s : ByteArray) (c e : Int), v = .agg #[.int .i64 a, .int .i64 b, .string s, .int .i64 c, .int .i64 e] ∧ s.size ≤ maxLen := by
  obtain ⟨cs, rfl, _⟩ := okWide_struct Tryd.underlying40 hv
  obtain ⟨fuel, hf⟩ := h
  obtain ⟨a, b, s, c, e, hc, hs⟩ := span_cells hf
  refine ⟨a, b, s, c, e, ?_, hs⟩
  have : cs.toList = [.int .i64 a, .int .i64 b, .string s, .int .i64 c, .int .i64 e] := by simpa [Value.cells] using hc
  rw [← this]
end Go.Proofs.YtjgcjopijblpkaaDoor
