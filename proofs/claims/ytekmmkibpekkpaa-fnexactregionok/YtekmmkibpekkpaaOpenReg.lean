/-
  A region that came in, opened: four numbers and a slice of updates.
-/
import Derived.Test.YtekmmkibpekkpaaOpenUpds
namespace Go.Proofs.Ytekmmkibpekkpaa
open Go.ChangeShapes Go.WideShapes Go.ChangeAt Go.RowKit
set_option maxRecDepth 100000

theorem region_cells {H : Type} {enc : TypeId × Value → H} {W : World} {fuel : Nat} {cs : List Value} {x : DataW H × List MemPlace}
    (h : DataW.trod enc Try.prog W 0 (fun _ => true) true fuel 61 cs = some x) :
    ∃ (id a b c : Int) (av : Option Addr) (n cap : Nat) (us : List M1.Upd), cs = [.int .i64 id, .int .i64 a, .int .i64 b, .int .i64 c, .slice av n cap] ∧ IsUpds W av n cap us := by
  obtain ⟨xs, n, _, _, hl, hlen, hf⟩ := DataW.trod_struct Try.underlying61 h
  have hl5 : cs.length = 5 := hl.trans (by kernel_rfl)
  have hi : Try.prog.cellsOf 2 = 1 := by kernel_rfl
  have ht : Try.prog.cellsOf 59 = 3 := by kernel_rfl
  have hu : Try.prog.cellsOf 53 = 1 := by kernel_rfl
  match xs, hlen, cs, hl5 with
  | [y0, y1, y2], _, [c0, c1, c2, c3, c4], _ =>
    have f0 := hf 0 _ rfl
    have f1 := hf 1 _ rfl
    have f2 := hf 2 _ rfl
    simp [hi, ht, hu] at f0 f1 f2
    obtain ⟨z2, z3, z4, n1, _, _, g2, g3, g4⟩ := Deep.trod_struct3 Try.underlying59 f1
    simp [hi] at g2 g3 g4
    obtain ⟨id, e0, _, _⟩ := DataW.trod_int Try.underlying2 f0
    obtain ⟨a, e1, _, _⟩ := DataW.trod_int Try.underlying2 g2
    obtain ⟨b, e2, _, _⟩ := DataW.trod_int Try.underlying2 g3
    obtain ⟨c, e3, _, _⟩ := DataW.trod_int Try.underlying2 g4
    simp at e0 e1 e2 e3
    have hs : ∃ av l k, c4 = .slice av l k := by
      rcases Deep.open_slice Try.underlying53 f2 with ⟨hcs, _⟩ | ⟨y, l, k, m, n, D, Pl, hcs, _⟩
      · simp at hcs; exact ⟨_, _, _, hcs⟩
      · simp at hcs; exact ⟨_, _, _, hcs⟩
    obtain ⟨av, l, k, rfl⟩ := hs
    obtain ⟨us, hus⟩ := open_updates (a := av) (len := l) (cap := k) f2
    exact ⟨id, a, b, c, av, l, k, us, by rw [e0, e1, e2, e3], hus⟩

theorem open_region {H : Type} {enc : TypeId × Value → H} {W : World} {b0 : Nat} {r : Reach} {v : Value} {d : DataW H} {p : List MemPlace}
    (hv : Value.okWide Try.prog W r b0 61 v) (h : DataW.Trod enc Try.prog W 0 (fun _ => true) true 61 v d p) :
    ∃ (id a b c : Int) (av : Option Addr) (n cap : Nat) (us : List M1.Upd), v = .agg #[.int .i64 id, .int .i64 a, .int .i64 b, .int .i64 c, .slice av n cap] ∧ IsUpds W av n cap us := by
  obtain ⟨cs, rfl, _⟩ := okWide_struct Try.underlying61 hv
  obtain ⟨fuel, hf⟩ := h
  obtain ⟨id, a, b, c, av, n, cap, us, hc, hs⟩ := region_cells hf
  refine ⟨id, a, b, c, av, n, cap, us, ?_, hs⟩
  have : cs.toList = [.int .i64 id, .int .i64 a, .int .i64 b, .int .i64 c, .slice av n cap] := by simpa [Value.cells] using hc
  rw [← this]
end Go.Proofs.Ytekmmkibpekkpaa
