/-
  Texts of one proof, joined: Uq.
-/
import Derived.Test.YtccendmoeelniaaGreatDoorZFIssued03
import Derived.Test.YtccendmoeelniaaGreatDoorZFIssued00
import Derived.Test.YtccendmoeelniaaGreatDoorZFIssued01
namespace Go.Proofs.YtccendmoeelniaaGreatDoor
open Go.ChangeShapes Go.WideShapes Go.ChangeAt Go.RowKit
set_option linter.unusedSimpArgs false
set_option linter.unusedVariables false
def uq (u : M1.Upd) (o : Nat) : Value := [.int .i64 u.dr, .int .i64 u.dn, .int .i64 u.sw, .int .i64 u.sc, .int .i64 u.sr, .int .i64 u.k, .int .i64 u.tr, .int .i64 u.id, .int .i64 u.pa, .string u.s, .int .i64 u.st, .int .i64 u.en, .int .i64 u.lv].getD o undef

theorem uq_same {f f' : Nat → Value} (h0 : f 0 = f' 0) (h1 : f 1 = f' 1) (h2 : f 2 = f' 2) (h3 : f 3 = f' 3) (h4 : f 4 = f' 4) (h5 : f 5 = f' 5) (h6 : f 6 = f' 6) (h7 : f 7 = f' 7) (h8 : f 8 = f' 8) (h9 : f 9 = f' 9) (h10 : f 10 = f' 10) (h11 : f 11 = f' 11) (h12 : f 12 = f' 12) : ∀ o, o < 13 → f o = f' o := fun o ho => by
 match o, ho with
 | 0, _ => exact h0
 | 1, _ => exact h1
 | 2, _ => exact h2
 | 3, _ => exact h3
 | 4, _ => exact h4
 | 5, _ => exact h5
 | 6, _ => exact h6
 | 7, _ => exact h7
 | 8, _ => exact h8
 | 9, _ => exact h9
 | 10, _ => exact h10
 | 11, _ => exact h11
 | 12, _ => exact h12

theorem uq_new (w : World) (u : M1.Upd) (t : TypeId) : RowAt (w.alloc (.cells #[.int .i64 u.dr, .int .i64 u.dn, .int .i64 u.sw, .int .i64 u.sc, .int .i64 u.sr, .int .i64 u.k, .int .i64 u.tr, .int .i64 u.id, .int .i64 u.pa, .string u.s, .int .i64 u.st, .int .i64 u.en, .int .i64 u.lv] t)) w.heap.size 13 (uq u) :=
 (RowAt.new w #[.int .i64 u.dr, .int .i64 u.dn, .int .i64 u.sw, .int .i64 u.sc, .int .i64 u.sr, .int .i64 u.k, .int .i64 u.tr, .int .i64 u.id, .int .i64 u.pa, .string u.s, .int .i64 u.st, .int .i64 u.en, .int .i64 u.lv] t).same (uq_same rfl rfl rfl rfl rfl rfl rfl rfl rfl rfl rfl rfl rfl)

theorem uq_cells {w : World} {p : Nat} {u : M1.Upd} (h : RowAt w p 13 (uq u)) : w.cell? ⟨p, 0, none⟩ = some (.int .i64 u.dr) ∧ w.cell? ⟨p, 1, none⟩ = some (.int .i64 u.dn) ∧ w.cell? ⟨p, 2, none⟩ = some (.int .i64 u.sw) ∧ w.cell? ⟨p, 3, none⟩ = some (.int .i64 u.sc) ∧ w.cell? ⟨p, 4, none⟩ = some (.int .i64 u.sr) ∧ w.cell? ⟨p, 5, none⟩ = some (.int .i64 u.k) ∧ w.cell? ⟨p, 6, none⟩ = some (.int .i64 u.tr) ∧ w.cell? ⟨p, 7, none⟩ = some (.int .i64 u.id) ∧ w.cell? ⟨p, 8, none⟩ = some (.int .i64 u.pa) ∧ w.cell? ⟨p, 9, none⟩ = some (.string u.s) ∧ w.cell? ⟨p, 10, none⟩ = some (.int .i64 u.st) ∧ w.cell? ⟨p, 11, none⟩ = some (.int .i64 u.en) ∧ w.cell? ⟨p, 12, none⟩ = some (.int .i64 u.lv) :=
 ⟨h.cell (o := 0) (by omega), h.cell (o := 1) (by omega), h.cell (o := 2) (by omega), h.cell (o := 3) (by omega), h.cell (o := 4) (by omega), h.cell (o := 5) (by omega), h.cell (o := 6) (by omega), h.cell (o := 7) (by omega), h.cell (o := 8) (by omega), h.cell (o := 9) (by omega), h.cell (o := 10) (by omega), h.cell (o := 11) (by omega), h.cell (o := 12) (by omega)⟩

theorem uq_free {w : World} {p : Nat} {u : M1.Upd} (h : RowAt w p 13 (uq u)) : w.frozen? ⟨p, 0, none⟩ = false ∧ w.frozen? ⟨p, 1, none⟩ = false ∧ w.frozen? ⟨p, 2, none⟩ = false ∧ w.frozen? ⟨p, 3, none⟩ = false ∧ w.frozen? ⟨p, 4, none⟩ = false ∧ w.frozen? ⟨p, 5, none⟩ = false ∧ w.frozen? ⟨p, 6, none⟩ = false ∧ w.frozen? ⟨p, 7, none⟩ = false ∧ w.frozen? ⟨p, 8, none⟩ = false ∧ w.frozen? ⟨p, 9, none⟩ = false ∧ w.frozen? ⟨p, 10, none⟩ = false ∧ w.frozen? ⟨p, 11, none⟩ = false ∧ w.frozen? ⟨p, 12, none⟩ = false :=
 ⟨h.free (o := 0) (by omega), h.free (o := 1) (by omega), h.free (o := 2) (by omega), h.free (o := 3) (by omega), h.free (o := 4) (by omega), h.free (o := 5) (by omega), h.free (o := 6) (by omega), h.free (o := 7) (by omega), h.free (o := 8) (by omega), h.free (o := 9) (by omega), h.free (o := 10) (by omega), h.free (o := 11) (by omega), h.free (o := 12) (by omega)⟩

theorem uq_put {w : World} {r : Nat} {u0 : M1.Upd} (h : RowAt w r 13 (uq u0)) (u : M1.Upd) : RowAt (((((((((((((w.setCell ⟨r, 0, none⟩ (.int .i64 u.dr)).setCell ⟨r, 1, none⟩ (.int .i64 u.dn)).setCell ⟨r, 2, none⟩ (.int .i64 u.sw)).setCell ⟨r, 3, none⟩ (.int .i64 u.sc)).setCell ⟨r, 4, none⟩ (.int .i64 u.sr)).setCell ⟨r, 5, none⟩ (.int .i64 u.k)).setCell ⟨r, 6, none⟩ (.int .i64 u.tr)).setCell ⟨r, 7, none⟩ (.int .i64 u.id)).setCell ⟨r, 8, none⟩ (.int .i64 u.pa)).setCell ⟨r, 9, none⟩ (.string u.s)).setCell ⟨r, 10, none⟩ (.int .i64 u.st)).setCell ⟨r, 11, none⟩ (.int .i64 u.en)).setCell ⟨r, 12, none⟩ (.int .i64 u.lv)) r 13 (uq u) :=
 RowAt.same (((((((((((((h.set (o := 0) (by omega) (.int .i64 u.dr)).set (o := 1) (by omega) (.int .i64 u.dn)).set (o := 2) (by omega) (.int .i64 u.sw)).set (o := 3) (by omega) (.int .i64 u.sc)).set (o := 4) (by omega) (.int .i64 u.sr)).set (o := 5) (by omega) (.int .i64 u.k)).set (o := 6) (by omega) (.int .i64 u.tr)).set (o := 7) (by omega) (.int .i64 u.id)).set (o := 8) (by omega) (.int .i64 u.pa)).set (o := 9) (by omega) (.string u.s)).set (o := 10) (by omega) (.int .i64 u.st)).set (o := 11) (by omega) (.int .i64 u.en)).set (o := 12) (by omega) (.int .i64 u.lv)) (uq_same rfl rfl rfl rfl rfl rfl rfl rfl rfl rfl rfl rfl rfl)

theorem bel_put {a w : World} {B r : Nat} (h : Below B a w) (hr : B ≤ r) (u : M1.Upd) : Below B a (((((((((((((w.setCell ⟨r, 0, none⟩ (.int .i64 u.dr)).setCell ⟨r, 1, none⟩ (.int .i64 u.dn)).setCell ⟨r, 2, none⟩ (.int .i64 u.sw)).setCell ⟨r, 3, none⟩ (.int .i64 u.sc)).setCell ⟨r, 4, none⟩ (.int .i64 u.sr)).setCell ⟨r, 5, none⟩ (.int .i64 u.k)).setCell ⟨r, 6, none⟩ (.int .i64 u.tr)).setCell ⟨r, 7, none⟩ (.int .i64 u.id)).setCell ⟨r, 8, none⟩ (.int .i64 u.pa)).setCell ⟨r, 9, none⟩ (.string u.s)).setCell ⟨r, 10, none⟩ (.int .i64 u.st)).setCell ⟨r, 11, none⟩ (.int .i64 u.en)).setCell ⟨r, 12, none⟩ (.int .i64 u.lv)) := (((((((((((((h.setCell (p := ⟨r, 0, none⟩) hr (.int .i64 u.dr)).setCell (p := ⟨r, 1, none⟩) hr (.int .i64 u.dn)).setCell (p := ⟨r, 2, none⟩) hr (.int .i64 u.sw)).setCell (p := ⟨r, 3, none⟩) hr (.int .i64 u.sc)).setCell (p := ⟨r, 4, none⟩) hr (.int .i64 u.sr)).setCell (p := ⟨r, 5, none⟩) hr (.int .i64 u.k)).setCell (p := ⟨r, 6, none⟩) hr (.int .i64 u.tr)).setCell (p := ⟨r, 7, none⟩) hr (.int .i64 u.id)).setCell (p := ⟨r, 8, none⟩) hr (.int .i64 u.pa)).setCell (p := ⟨r, 9, none⟩) hr (.string u.s)).setCell (p := ⟨r, 10, none⟩) hr (.int .i64 u.st)).setCell (p := ⟨r, 11, none⟩) hr (.int .i64 u.en)).setCell (p := ⟨r, 12, none⟩) hr (.int .i64 u.lv))

theorem far13 {w : World} {k m r : Nat} {f : Nat → Value} (h : RowAt w k m f) (hn : r ≠ k) (u : M1.Upd) : RowAt (((((((((((((w.setCell ⟨r, 0, none⟩ (.int .i64 u.dr)).setCell ⟨r, 1, none⟩ (.int .i64 u.dn)).setCell ⟨r, 2, none⟩ (.int .i64 u.sw)).setCell ⟨r, 3, none⟩ (.int .i64 u.sc)).setCell ⟨r, 4, none⟩ (.int .i64 u.sr)).setCell ⟨r, 5, none⟩ (.int .i64 u.k)).setCell ⟨r, 6, none⟩ (.int .i64 u.tr)).setCell ⟨r, 7, none⟩ (.int .i64 u.id)).setCell ⟨r, 8, none⟩ (.int .i64 u.pa)).setCell ⟨r, 9, none⟩ (.string u.s)).setCell ⟨r, 10, none⟩ (.int .i64 u.st)).setCell ⟨r, 11, none⟩ (.int .i64 u.en)).setCell ⟨r, 12, none⟩ (.int .i64 u.lv)) k m f :=
 (((((((((((((h.far (p := ⟨r, 0, none⟩) hn (.int .i64 u.dr)).far (p := ⟨r, 1, none⟩) hn (.int .i64 u.dn)).far (p := ⟨r, 2, none⟩) hn (.int .i64 u.sw)).far (p := ⟨r, 3, none⟩) hn (.int .i64 u.sc)).far (p := ⟨r, 4, none⟩) hn (.int .i64 u.sr)).far (p := ⟨r, 5, none⟩) hn (.int .i64 u.k)).far (p := ⟨r, 6, none⟩) hn (.int .i64 u.tr)).far (p := ⟨r, 7, none⟩) hn (.int .i64 u.id)).far (p := ⟨r, 8, none⟩) hn (.int .i64 u.pa)).far (p := ⟨r, 9, none⟩) hn (.string u.s)).far (p := ⟨r, 10, none⟩) hn (.int .i64 u.st)).far (p := ⟨r, 11, none⟩) hn (.int .i64 u.en)).far (p := ⟨r, 12, none⟩) hn (.int .i64 u.lv))

end Go.Proofs.YtccendmoeelniaaGreatDoor
