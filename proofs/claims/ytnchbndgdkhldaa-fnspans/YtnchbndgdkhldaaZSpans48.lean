/-
  The contract of the program's LevelOf: a range over a function whose body writes a variable of its own.
-/
import Derived.Test.YtnchbndgdkhldaaZSpans47
import Derived.Test.YtnchbndgdkhldaaZSpans17
namespace M1
/-- The greatest level. -/
def lvl (xs : List Upd) : Int := xs.foldl (fun m u => max m u.lv) 0
theorem lvl_snoc (xs : List Upd) (u : Upd) : lvl (xs ++ [u]) = max (lvl xs) u.lv := by simp [lvl]
def levelOf (us : List Upd) (tr : Int) : Int := if setOk us = true then lvl (ofT 3 tr us us.length) else -1
end M1
namespace Go.Proofs.Ytnchbndgdkhldaa
open Go.ChangeShapes Go.WideShapes Go.ChangeAt Go.RowKit Go.Shelf
set_option linter.unusedSimpArgs false
attribute [local go_sem] Oper.semAt_some

/-- A block that holds just one update. -/
def UBox (W : World) (B : Nat) (u : M1.Upd) : Prop := W.heap[B]? = some (.cells #[.int .i64 u.dr, .int .i64 u.dn, .int .i64 u.sw, .int .i64 u.sc, .int .i64 u.sr, .int .i64 u.k, .int .i64 u.tr, .int .i64 u.id, .int .i64 u.pa, .string u.s, .int .i64 u.st, .int .i64 u.en, .int .i64 u.lv] 38 (0, 0))
theorem UBox.lt {W : World} {B : Nat} {u : M1.Upd} (h : UBox W B u) : B < W.heap.size := (Array.getElem?_eq_some_iff.1 h).1
theorem UBox.new (W : World) (u : M1.Upd) : UBox (W.alloc (.cells #[.int .i64 u.dr, .int .i64 u.dn, .int .i64 u.sw, .int .i64 u.sc, .int .i64 u.sr, .int .i64 u.k, .int .i64 u.tr, .int .i64 u.id, .int .i64 u.pa, .string u.s, .int .i64 u.st, .int .i64 u.en, .int .i64 u.lv] 38)) W.heap.size u := World.alloc_heap_new W _
theorem ubox_own {β : Type} (B : Nat) (f : β → M1.Upd) : Own (fun s W => UBox W B (f s)) := fun s X Y row hs hg hrow =>
  (hg.block B hs.lt (fun e' => by obtain ⟨o, ho, hc⟩ := hrow B e'.symm; rw [show X.heap[B]? = _ from hs] at ho; cases ho; cases hc)).trans hs

theorem ofTrace_stops (F : Fence) (n : Nat) (hF : F.fn 68) (hro : F.round = none) (hn : 1 ≤ n) (B : Nat) (av : Option Addr) (len cap : Nat) (kd tr : Int) (us : List M1.Upd) (W0 : World) (h1 : IsUpds W0 av len cap us) (w : World) (hB0 : Below W0.heap.size W0 w) (hBs : B + 3 ≤ w.heap.size)
    (b0 : w.cell? ⟨B, 0, none⟩ = some (.slice av len cap)) (b1 : w.cell? ⟨B + 1, 0, none⟩ = some (.int .i64 kd)) (b2 : w.cell? ⟨B + 1 + 1, 0, none⟩ = some (.int .i64 tr)) :
    SeqStopsK F n Try.prog 68 #[.pointer (some ⟨B, 0, none⟩), .pointer (some ⟨B + 1, 0, none⟩), .pointer (some ⟨B + 1 + 1, 0, none⟩)] (fun x : M1.Upd => #[Value.agg #[.int .i64 x.dr, .int .i64 x.dn, .int .i64 x.sw, .int .i64 x.sc, .int .i64 x.sr, .int .i64 x.k, .int .i64 x.tr, .int .i64 x.id, .int .i64 x.pa, .string x.s, .int .i64 x.st, .int .i64 x.en, .int .i64 x.lv]]) (KpI W0.heap.size B) (fun ys => ys = M1.ofT kd tr us len) (fun pre => ∃ k, k ≤ len ∧ pre = M1.ofT kd tr us k) len w := fun l J Jx W hW hAJ _ hY h0 =>
  ofTrace1_in F n hF hro hn l B W0.heap.size av len cap kd tr us W0 rfl h1 J Jx W.heap.size hAJ hY W (hB0.trans (hW.mono hB0.size)) (by have := hW.size; omega)
    ((hW.cell (p := ⟨B, 0, none⟩) (by show B < w.heap.size; omega)).trans b0) ((hW.cell (p := ⟨B + 1, 0, none⟩) (by show B + 1 < w.heap.size; omega)).trans b1) ((hW.cell (p := ⟨B + 1 + 1, 0, none⟩) (by show B + 1 + 1 < w.heap.size; omega)).trans b2) h0

end Go.Proofs.Ytnchbndgdkhldaa
