/-
  Texts of one proof, joined: OpenOp, RdrSpan.
-/
import Derived.Test.YtccendmoeelniaaGreatDoorZIssued49
import Derived.Test.YtccendmoeelniaaGreatDoorZIssued06
import Derived.Test.YtccendmoeelniaaGreatDoorZIssued02
import Derived.Test.YtccendmoeelniaaGreatDoorRows
import Derived.Test.YtccendmoeelniaaGreatDoorZIssued07
import Derived.WalkKit
import Derived.ProofKit
import Derived.OpenShut
import Derived.Deep.RegionHeld3
import Derived.Deep.DrawnRows
namespace Go.Proofs.YtccendmoeelniaaGreatDoor
open Go.ChangeShapes Go.WideShapes Go.ChangeAt Go.RowKit
set_option maxRecDepth 100000
set_option linter.unusedSimpArgs false
theorem op_cells {H : Type} {enc : TypeId × Value → H} {W : World} {base fuel : Nat} {spare : Nat → Bool} {held : Bool} {cs : List Value} {x : DataW H × List MemPlace}
    (h : DataW.trod enc Tryz.prog W base spare held fuel 61 cs = some x) :
    ∃ (k t a b : Int) (s : ByteArray) (c d : Int), cs = [.int .i64 k, .int .i64 t, .int .i64 a, .int .i64 b, .string s, .int .i64 c, .int .i64 d] ∧ s.size ≤ maxLen := by
  obtain ⟨xs, n, _, _, hl, hlen, hf⟩ := DataW.trod_struct Tryz.underlying61 h
  have hl7 : cs.length = 7 := hl.trans (by kernel_rfl)
  have hi : Tryz.prog.cellsOf 2 = 1 := by kernel_rfl
  have hp : Tryz.prog.cellsOf 59 = 5 := by kernel_rfl
  match xs, hlen, cs, hl7 with
  | [y0, y1, y2], _, [c0, c1, c2, c3, c4, c5, c6], _ =>
    have f0 := hf 0 _ rfl
    have f1 := hf 1 _ rfl
    have f2 := hf 2 _ rfl
    simp [hi, hp] at f0 f1 f2
    obtain ⟨k, e0, _, _⟩ := DataW.trod_int Tryz.underlying2 f0
    obtain ⟨t, e1, _, _⟩ := DataW.trod_int Tryz.underlying2 f1
    obtain ⟨a, b, s, c, d, e2, hs⟩ := span_cells f2
    simp at e0 e1 e2
    exact ⟨k, t, a, b, s, c, d, by simp [e0, e1, e2], hs⟩

theorem open_op {H : Type} {enc : TypeId × Value → H} {W : World} {base b0 : Nat} {spare : Nat → Bool} {held : Bool} {r : Reach} {v : Value} {d : DataW H} {p : List MemPlace}
    (hv : Value.okWide Tryz.prog W r b0 61 v) (h : DataW.Trod enc Tryz.prog W base spare held 61 v d p) :
    ∃ (k t a b : Int) (s : ByteArray) (c e : Int), v = .agg #[.int .i64 k, .int .i64 t, .int .i64 a, .int .i64 b, .string s, .int .i64 c, .int .i64 e] ∧ s.size ≤ maxLen := by
  obtain ⟨cs, rfl, _⟩ := okWide_struct Tryz.underlying61 hv
  obtain ⟨fuel, hf⟩ := h
  obtain ⟨k, t, a, b, s, c, e, hc, hs⟩ := op_cells hf
  refine ⟨k, t, a, b, s, c, e, ?_, hs⟩
  have : cs.toList = [.int .i64 k, .int .i64 t, .int .i64 a, .int .i64 b, .string s, .int .i64 c, .int .i64 e] := by simpa [Value.cells] using hc
  rw [← this]

set_option maxHeartbeats 2000000 in
theorem toOp_any (k t a b c d : Int) (s : ByteArray) (w : World) :
    Calls Tryz.prog 30 #[.agg #[.int .i64 k, .int .i64 t, .int .i64 a, .int .i64 b, .string s, .int .i64 c, .int .i64 d]] w fun e w' => e = .returned (.agg #[.int .i64 k, .int .i64 t, .int .i64 a, .int .i64 b, .string s, .int .i64 c, .int .i64 d]) ∧ Below w.heap.size w w' := by
  go_enter Tryz.func30, Tryz.ntmps30
  go_wp2_with fail
  refine (toSpan_any _ _ _ _ _ _).mono ?_
  rintro e w3 ⟨rfl, hb3⟩
  obtain ⟨hc3, hf3⟩ := bcell hb3
  have hz3 := hb3.size
  simp at hz3
  have hz3a : w.heap.size < w3.heap.size := by omega
  have hz3b : w.heap.size + 1 < w3.heap.size := by omega
  have hz3c : w.heap.size + 1 + 1 < w3.heap.size := by omega
  go_wp2_with fail
  refine bodyPost_ret (v := .agg #[.int .i64 k, .int .i64 t, .int .i64 a, .int .i64 b, .string s, .int .i64 c, .int .i64 d]) (by simp [results, Tryz.results30, go_sem, cell_set_same, hc3, hz3a, hz3b, hz3c]) rfl ⟨rfl, ?_⟩
  repeat (first | (with_reducible exact Below.refl _ _) | ((with_reducible refine Below.setCell ?_ ?_ _); rotate_left; (focus (first | omega | (simp; done) | (simp; omega)))) | ((with_reducible refine Below.alloc ?_ ?_ _); rotate_left; (focus (first | omega | (simp; done) | (simp; omega)))) | (with_reducible refine Below.drew ?_) | ((with_reducible refine Below.trans ?_ (Below.mono hb3 ?_)); rotate_left; (focus (first | omega | (simp; done) | (simp; omega)))))

theorem szOp_yes (k t a b c d : Int) (s : ByteArray) (left : Int) (w : World) (h0 : 0 ≤ left) (h1 : left ≤ 1048576) (hs : s.size ≤ maxLen) (h : (s.size : Int) ≤ left) :
    Calls Tryz.prog 28 #[.agg #[.int .i64 k, .int .i64 t, .int .i64 a, .int .i64 b, .string s, .int .i64 c, .int .i64 d], .int .i64 left] w fun e w' => e = .returned (.int .i64 (left - s.size)) ∧ Below w.heap.size w w' := by
  go_enter Tryz.func28, Tryz.ntmps28
  go_wp2_with fail
  refine (szSpan_yes _ _ _ _ _ _ _ h0 h1 hs h).mono ?_
  rintro e w1 ⟨rfl, hb1⟩
  have hB1 := hb1
  clear hb1
  obtain ⟨hc1, hf1⟩ := bcell hB1
  have hz1 := hB1.size
  (try simp [Nat.succ_le_iff] at hz1)
  have hz1_0 : w.heap.size < w1.heap.size := by omega
  go_wp2_with fail
  go_ret
  refine ⟨rfl, ?_⟩
  repeat (first | (with_reducible exact Below.refl _ _) | ((with_reducible refine Below.setCell ?_ ?_ _); rotate_left; (focus (first | omega | (simp; done) | (simp; omega)))) | ((with_reducible refine Below.alloc ?_ ?_ _); rotate_left; (focus (first | omega | (simp; done) | (simp; omega)))) | (with_reducible refine Below.drew ?_) | ((with_reducible refine Below.trans ?_ (Below.mono hB1 ?_)); rotate_left; (focus (first | omega | (simp; done) | (simp; omega)))))

theorem szOp_no (k t a b c d : Int) (s : ByteArray) (left : Int) (w : World) (h0 : 0 ≤ left) (h1 : left ≤ 1048576) (hs : s.size ≤ maxLen) (h : left < (s.size : Int)) :
    Calls Tryz.prog 28 #[.agg #[.int .i64 k, .int .i64 t, .int .i64 a, .int .i64 b, .string s, .int .i64 c, .int .i64 d], .int .i64 left] w fun e w' => e = .returned (.int .i64 (-1)) ∧ Below w.heap.size w w' := by
  go_enter Tryz.func28, Tryz.ntmps28
  go_wp2_with fail
  refine (szSpan_no _ _ _ _ _ _ _ h0 h1 hs h).mono ?_
  rintro e w1 ⟨rfl, hb1⟩
  have hB1 := hb1
  clear hb1
  obtain ⟨hc1, hf1⟩ := bcell hB1
  have hz1 := hB1.size
  (try simp [Nat.succ_le_iff] at hz1)
  have hz1_0 : w.heap.size < w1.heap.size := by omega
  go_wp2_with fail
  go_ret
  refine ⟨rfl, ?_⟩
  repeat (first | (with_reducible exact Below.refl _ _) | ((with_reducible refine Below.setCell ?_ ?_ _); rotate_left; (focus (first | omega | (simp; done) | (simp; omega)))) | ((with_reducible refine Below.alloc ?_ ?_ _); rotate_left; (focus (first | omega | (simp; done) | (simp; omega)))) | (with_reducible refine Below.drew ?_) | ((with_reducible refine Below.trans ?_ (Below.mono hB1 ?_)); rotate_left; (focus (first | omega | (simp; done) | (simp; omega)))))

end Go.Proofs.YtccendmoeelniaaGreatDoor

namespace Go.Proofs.YtccendmoeelniaaGreatDoor
open Go.ChangeShapes Go.WideShapes Go.ChangeAt Go.RowKit
set_option linter.unusedSimpArgs false
set_option linter.unusedVariables false
def nm3 (o : Nat) : ByteArray := if o = 0 then ⟨#[119, 101, 98]⟩ else if o = 1 then ⟨#[100, 98]⟩ else ⟨#[97, 117, 116, 104]⟩

theorem row3 (w : World) (t : TypeId) : RowAt (w.alloc (.cells #[.string ⟨#[119, 101, 98]⟩, .string ⟨#[100, 98]⟩, .string ⟨#[97, 117, 116, 104]⟩] t)) w.heap.size 3 (fun o => .string (nm3 o)) :=
  (RowAt.new w #[.string ⟨#[119, 101, 98]⟩, .string ⟨#[100, 98]⟩, .string ⟨#[97, 117, 116, 104]⟩] t).same fun o ho => by
    match o, ho with
    | 0, _ => rfl
    | 1, _ => rfl
    | 2, _ => rfl

theorem have_state {P : Program} {md : Region.Mode} {ops : Array Oper} {Q : Exit → Act → World → Prop} {S : World → Prop} {fuel : Nat} {listed : Array Bool} {a : Act} {w : World} (f : Nat) (L : Array Bool) (I : Act → World → Prop)
    (h1 : ∀ a w, I a w → S w → wpAnyH P md ops Q S f L a w) (h2 : Hid (∀ a w, I a w → S w → wpAnyH P md ops Q S f L a w) → wpAnyH P md ops Q S fuel listed a w) : wpAnyH P md ops Q S fuel listed a w := h2 h1

end Go.Proofs.YtccendmoeelniaaGreatDoor
