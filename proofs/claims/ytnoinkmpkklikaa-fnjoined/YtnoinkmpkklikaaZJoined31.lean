/-
  Contracts of Since, of the model and of the program.
-/
import Derived.Test.YtnoinkmpkklikaaZJoined30
namespace Go.Proofs.Ytnoinkmpkklikaa
open Go.ChangeShapes Go.WideShapes Go.ChangeAt Go.RowKit
set_option linter.unusedSimpArgs false
set_option linter.unusedVariables false

/-- What Since leaves: a row of its own, and whether it could be told. -/
def Told (w w' : World) (e : Ending) (ns : List M1.Upd) (ok : Bool) : Prop := ∃ v, e = .returned (.tuple #[v, .bool ok]) ∧ w'.ownsRow w.heap.size 51 13 v ns.length (ucL ns)

theorem sinceOk_set {us : List M1.Upd} {ds : List (Int × Int)} {most : Int} (h : M1.setOk us = false) : M1.sinceOk us ds most = false ∧ M1.sinceL us ds most = [] := by
  have : M1.sinceOk us ds most = false := by unfold M1.sinceOk; rw [h]; rfl
  exact ⟨this, by unfold M1.sinceL; rw [this]; rfl⟩
theorem sinceOk_vec {us : List M1.Upd} {ds : List (Int × Int)} {most : Int} (h : M1.vecOk ds = false) : M1.sinceOk us ds most = false ∧ M1.sinceL us ds most = [] := by
  have : M1.sinceOk us ds most = false := by unfold M1.sinceOk; rw [h]; simp
  exact ⟨this, by unfold M1.sinceL; rw [this]; rfl⟩
theorem sinceOk_most {us : List M1.Upd} {ds : List (Int × Int)} {most : Int} (h : M1.inB most 1 60 = false) : M1.sinceOk us ds most = false ∧ M1.sinceL us ds most = [] := by
  have : M1.sinceOk us ds most = false := by unfold M1.sinceOk; rw [h]; simp
  exact ⟨this, by unfold M1.sinceL; rw [this]; rfl⟩
theorem sinceOk_yes {us : List M1.Upd} {ds : List (Int × Int)} {most : Int} (h1 : M1.setOk us = true) (h2 : M1.vecOk ds = true) (h3 : M1.inB most 1 60 = true) : M1.sinceOk us ds most = true ∧ M1.sinceL us ds most = M1.sinceTo us ds most us.length := by
  have : M1.sinceOk us ds most = true := by unfold M1.sinceOk; rw [h1, h2, h3]; rfl
  exact ⟨this, by unfold M1.sinceL; rw [if_pos this]⟩

theorem RowAt.grown {a b : World} {g m : Nat} {f : Nat → Value} {row : Option Nat} (h : RowAt a g m f) (hg : a.grownBy b row) (hn : ∀ k, row = some k → ¬ k = g) : RowAt b g m f := by
  have e := hg.block g h.lt (fun e => hn g e.symm rfl)
  exact ⟨Nat.lt_of_lt_of_le h.lt hg.size, fun o ho => ⟨(World.cell?_of_block (w := a) e).trans (h.2 o ho).1, (World.frozen?_of_block (w := a) e).trans (h.2 o ho).2⟩⟩

theorem row5 (w : World) (a b c d e : Int) (t : TypeId) (f : Nat → Value) (h0 : f 0 = .int .i64 a) (h1 : f 1 = .int .i64 b) (h2 : f 2 = .int .i64 c) (h3 : f 3 = .int .i64 d) (h4 : f 4 = .int .i64 e) : RowAt (w.alloc (.cells #[.int .i64 a, .int .i64 b, .int .i64 c, .int .i64 d, .int .i64 e] t)) w.heap.size 5 f :=
  (RowAt.new w #[.int .i64 a, .int .i64 b, .int .i64 c, .int .i64 d, .int .i64 e] t).same fun o ho => by
    match o, ho with
    | 0, _ => exact h0.symm
    | 1, _ => exact h1.symm
    | 2, _ => exact h2.symm
    | 3, _ => exact h3.symm
    | 4, _ => exact h4.symm

end Go.Proofs.Ytnoinkmpkklikaa
