/-
  Texts of one proof, joined: Clone, Uq.
-/
import Derived.Test.YtccendmoeelniaaGreatDoorZReceived01
import Derived.Lib.Strings
import Derived.Lib.Walk
import Derived.Lib.BufferWrite
import Derived.Lib.UnsafeStr
import Derived.Lib.Hide
import Derived.Laws.MakeOwn
import Derived.Test.YtccendmoeelniaaGreatDoorZReceived03
import Derived.Test.YtccendmoeelniaaGreatDoorZReceived00
namespace Go.Proofs.YtccendmoeelniaaGreatDoor
open Go.ChangeShapes Go.WideShapes Go.ChangeAt Go.RowKit
set_option linter.unusedSimpArgs false
theorem infoU8 : (Tryz.prog.info? 5).map (fun i => (i.zero, i.size, i.bytes)) = some (some (.int .u8 0), 1, 1) := by kernel_rfl

set_option maxHeartbeats 4000000 in
set_option maxRecDepth 100000 in
theorem litClone_any (s : ByteArray) (w : World) (hlim : s.size ≤ 1048576) :
    Calls Tryz.prog 121 #[.string s] w fun e w' => e = .returned (.string s) ∧ Below w.heap.size w w' := by
  by_cases h0 : s.size = 0
  · have hs : s = ⟨#[]⟩ := ByteArray.ext (Array.eq_empty_of_size_eq_zero h0)
    subst hs
    go_enter Tryz.func121, Tryz.ntmps121
    go_wp2
    go_ret
    exact ⟨rfl, Below.refl _ _⟩
  · obtain ⟨i0, hi, hz0, hz1, hz2⟩ : ∃ i, Tryz.prog.info? 5 = some i ∧ i.zero = some (.int .u8 0) ∧ i.size = 1 ∧ i.bytes = 1 := by
      have h := infoU8
      cases e : Tryz.prog.info? 5 with
      | none => rw [e] at h; cases h
      | some i => rw [e] at h; simp at h; exact ⟨i, rfl, h.1, h.2.1, h.2.2⟩
    have hinfo : (Tryz.prog.info? 5).map (·.size) = some 1 := by rw [hi]; simp [hz1]
    have hco : Tryz.prog.cellsOf 5 = 1 := by simp [Program.cellsOf, hi, hz1]
    -- the row that is made
    obtain ⟨M, hM⟩ : ∃ M, M = madeCells (Value.int .u8 0).cells (((s.size : Nat) : Int).toNat * i0.size) := ⟨_, rfl⟩
    have hMs : M.size = s.size := by rw [hM, size_madeCells, hz1]; simp
    have hmk : ∀ W : World, (Instr.makeSlice 22 (.int .i64 (s.size : Int)) (.int .i64 (s.size : Int))).run Tryz.prog W = .ok (.slice (some ⟨W.heap.size, 0, none⟩) s.size s.size) (W.alloc (.cells M 5)) := fun W => by
      have h := run_make (P := Tryz.prog) W 22 5 i0 (.int .u8 0) Tryz.underlying22 hi hz0 .i64 .i64 (s.size : Int) (s.size : Int) (by omega) (by omega) (by rw [hz2]; omega) (by omega)
      rw [← hM] at h
      simpa using h
    clear hM
    -- the bytes that are copied into it
    have hcp := Lib.run_copy_row_string (P := Tryz.prog) (w.alloc (.cells M 5)) 22 9 3 5 w.heap.size 0 s.size s.size s M 5 Tryz.underlying22 hinfo (heap_alloc_new w _) (Nat.le_refl _) (by omega)
    obtain ⟨Y, hY⟩ : ∃ Y, Y = (M.toList.take 0 ++ Lib.byteCells s.data.toList ++ M.toList.drop (0 + s.size)).toArray := ⟨_, rfl⟩
    rw [← hY] at hcp
    have hYl : Y.toList = Lib.byteCells s.data.toList := by
      rw [hY, List.toList_toArray, List.take_zero, List.nil_append, List.drop_of_length_le (by rw [Array.length_toList]; omega), List.append_nil]
    have hYs : Y.size = s.size := by rw [← Array.length_toList, hYl, Lib.byteCells_length, ← Lib.size_eq]
    have hgY : ((w.alloc (.cells M 5)).setRow w.heap.size Y).heap[w.heap.size]? = some (.cells Y 5 (0, 0)) := setRow_heap _ _ M _ 5 (0, 0) (heap_alloc_new w _)
    -- the text over it
    have hne : s.data.toList ≠ [] := fun e => h0 (by rw [Lib.size_eq, e]; rfl)
    have hUS := Lib.run_unsafeString_row (P := Tryz.prog) ((w.alloc (.cells M 5)).setRow w.heap.size Y) 202 3 9 5 Tryz.underlying202 hco w.heap.size Y.size (by unfold World.shape?; rw [hgY]) s.data.toList hne (by rw [← Lib.size_eq]; omega) (by rw [← Lib.size_eq]; omega)
      (fun j x hx => Lib.cells_of_row hgY Y.size j _ (by rw [List.take_of_length_le (by rw [Array.length_toList]; exact Nat.le_refl _), hYl]; simp [Lib.byteCells, hx]))
    rw [← Lib.size_eq] at hUS
    clear hY
    go_enter Tryz.func121, Tryz.ntmps121
    go_wp2
    go_ret
    have hb1 : Below w.heap.size w (w.alloc (.cells M 5)) := (Below.refl _ w).alloc (Nat.le_refl _) _
    have hb2 : Below w.heap.size (w.alloc (.cells M 5)) ((w.alloc (.cells M 5)).setRow w.heap.size Y) := ⟨rfl, rfl, rfl, by simp, fun k hk => setRow_other _ _ _ _ (by omega)⟩
    exact ⟨rfl, Lib.below_freeze (hb1.trans hb2) (p := ⟨w.heap.size, 0, none⟩) (Nat.le_refl _) _⟩

theorem clone_any (s : ByteArray) (w : World) (hlim : s.size ≤ 1048576) :
    Calls Tryz.prog 91 #[.string s] w fun e w' => e = .returned (.string s) ∧ Below w.heap.size w w' := by
  go_enter Tryz.func91, Tryz.ntmps91
  go_wp2_with fail
  refine (litClone_any _ _ hlim).mono ?_
  rintro e w1 ⟨rfl, hb1⟩
  go_wp2_with fail
  go_ret
  exact ⟨rfl, hb1⟩

set_option maxHeartbeats 2000000 in
theorem copyOf_any (u : M1.Upd) (w : World) (hlim : u.s.size ≤ 1000) :
    Calls Tryz.prog 48 #[.agg #[.int .i64 u.dr, .int .i64 u.dn, .int .i64 u.sw, .int .i64 u.sc, .int .i64 u.sr, .int .i64 u.k, .int .i64 u.tr, .int .i64 u.id, .int .i64 u.pa, .string u.s, .int .i64 u.st, .int .i64 u.en, .int .i64 u.lv]] w fun e w' => e = .returned (.agg #[.int .i64 u.dr, .int .i64 u.dn, .int .i64 u.sw, .int .i64 u.sc, .int .i64 u.sr, .int .i64 u.k, .int .i64 u.tr, .int .i64 u.id, .int .i64 u.pa, .string u.s, .int .i64 u.st, .int .i64 u.en, .int .i64 u.lv]) ∧ Below w.heap.size w w' := by
  go_enter Tryz.func48, Tryz.ntmps48
  go_wp2_with fail
  refine (clone_any _ _ (by omega)).mono ?_
  rintro e w1 ⟨rfl, hb1⟩
  obtain ⟨hc1, hf1⟩ := bcell hb1
  have hz1 := hb1.size
  simp at hz1
  have hz1a : w.heap.size < w1.heap.size := by omega
  have hz1b : w.heap.size + 1 < w1.heap.size := by omega
  have c9 : (w1.setCell ⟨w.heap.size, 9, none⟩ (.string u.s)).cell? ⟨w.heap.size, 9, none⟩ = some (.string u.s) := cell_set_same _ _ _ (by rw [hc1 _ _ (by simp; omega)]; simp)
  go_wp2_with fail
  refine bodyPost_ret (v := .agg #[.int .i64 u.dr, .int .i64 u.dn, .int .i64 u.sw, .int .i64 u.sc, .int .i64 u.sr, .int .i64 u.k, .int .i64 u.tr, .int .i64 u.id, .int .i64 u.pa, .string u.s, .int .i64 u.st, .int .i64 u.en, .int .i64 u.lv]) (by simp [results, Tryz.results48, go_sem, cell_set_same, hc1, hz1a, hz1b]) rfl ⟨rfl, ?_⟩
  repeat (first | (with_reducible exact Below.refl _ _) | ((with_reducible refine Below.setCell ?_ ?_ _); rotate_left; (focus (first | omega | (simp; done) | (simp; omega)))) | ((with_reducible refine Below.alloc ?_ ?_ _); rotate_left; (focus (first | omega | (simp; done) | (simp; omega)))) | (with_reducible refine Below.drew ?_) | ((with_reducible refine Below.trans ?_ (Below.mono hb1 ?_)); rotate_left; (focus (first | omega | (simp; done) | (simp; omega)))))

end Go.Proofs.YtccendmoeelniaaGreatDoor

namespace Go.Proofs.YtccendmoeelniaaGreatDoor
open Go.ChangeShapes Go.WideShapes Go.ChangeAt Go.RowKit
set_option linter.unusedSimpArgs false
set_option linter.unusedVariables false
def uq (u : M1.Upd) (o : Nat) : Value := [.int .i64 u.dr, .int .i64 u.dn, .int .i64 u.sw, .int .i64 u.sc, .int .i64 u.sr, .int .i64 u.k, .int .i64 u.tr, .int .i64 u.id, .int .i64 u.pa, .string u.s, .int .i64 u.st, .int .i64 u.en, .int .i64 u.lv].getD o undef

theorem uq_same {f f' : Nat → Value} (h0 : f 0 = f' 0) (h1 : f 1 = f' 1) (h2 : f 2 = f' 2) (h3 : f 3 = f' 3) (h4 : f 4 = f' 4) (h5 : f 5 = f' 5) (h6 : f 6 = f' 6) (h7 : f 7 = f' 7) (h8 : f 8 = f' 8) (h9 : f 9 = f' 9) (h10 : f 10 = f' 10) (h11 : f 11 = f' 11) (h12 : f 12 = f' 12) : ∀ o, o < 13 → f o = f' o := fun o ho => by
  match o, ho with
  | 0, _ => exact h0
  | 1, _ => exact h1
  | 2, _ => exact h2
  | 3, _ => exact h3
  | 4, _ => exact h4
  | 5, _ => exact h5
  | 6, _ => exact h6
  | 7, _ => exact h7
  | 8, _ => exact h8
  | 9, _ => exact h9
  | 10, _ => exact h10
  | 11, _ => exact h11
  | 12, _ => exact h12

theorem uq_new (w : World) (u : M1.Upd) (t : TypeId) : RowAt (w.alloc (.cells #[.int .i64 u.dr, .int .i64 u.dn, .int .i64 u.sw, .int .i64 u.sc, .int .i64 u.sr, .int .i64 u.k, .int .i64 u.tr, .int .i64 u.id, .int .i64 u.pa, .string u.s, .int .i64 u.st, .int .i64 u.en, .int .i64 u.lv] t)) w.heap.size 13 (uq u) :=
  (RowAt.new w #[.int .i64 u.dr, .int .i64 u.dn, .int .i64 u.sw, .int .i64 u.sc, .int .i64 u.sr, .int .i64 u.k, .int .i64 u.tr, .int .i64 u.id, .int .i64 u.pa, .string u.s, .int .i64 u.st, .int .i64 u.en, .int .i64 u.lv] t).same (uq_same rfl rfl rfl rfl rfl rfl rfl rfl rfl rfl rfl rfl rfl)

theorem uq_cells {w : World} {p : Nat} {u : M1.Upd} (h : RowAt w p 13 (uq u)) : w.cell? ⟨p, 0, none⟩ = some (.int .i64 u.dr) ∧ w.cell? ⟨p, 1, none⟩ = some (.int .i64 u.dn) ∧ w.cell? ⟨p, 2, none⟩ = some (.int .i64 u.sw) ∧ w.cell? ⟨p, 3, none⟩ = some (.int .i64 u.sc) ∧ w.cell? ⟨p, 4, none⟩ = some (.int .i64 u.sr) ∧ w.cell? ⟨p, 5, none⟩ = some (.int .i64 u.k) ∧ w.cell? ⟨p, 6, none⟩ = some (.int .i64 u.tr) ∧ w.cell? ⟨p, 7, none⟩ = some (.int .i64 u.id) ∧ w.cell? ⟨p, 8, none⟩ = some (.int .i64 u.pa) ∧ w.cell? ⟨p, 9, none⟩ = some (.string u.s) ∧ w.cell? ⟨p, 10, none⟩ = some (.int .i64 u.st) ∧ w.cell? ⟨p, 11, none⟩ = some (.int .i64 u.en) ∧ w.cell? ⟨p, 12, none⟩ = some (.int .i64 u.lv) :=
  ⟨h.cell (o := 0) (by omega), h.cell (o := 1) (by omega), h.cell (o := 2) (by omega), h.cell (o := 3) (by omega), h.cell (o := 4) (by omega), h.cell (o := 5) (by omega), h.cell (o := 6) (by omega), h.cell (o := 7) (by omega), h.cell (o := 8) (by omega), h.cell (o := 9) (by omega), h.cell (o := 10) (by omega), h.cell (o := 11) (by omega), h.cell (o := 12) (by omega)⟩

theorem uq_free {w : World} {p : Nat} {u : M1.Upd} (h : RowAt w p 13 (uq u)) : w.frozen? ⟨p, 0, none⟩ = false ∧ w.frozen? ⟨p, 1, none⟩ = false ∧ w.frozen? ⟨p, 2, none⟩ = false ∧ w.frozen? ⟨p, 3, none⟩ = false ∧ w.frozen? ⟨p, 4, none⟩ = false ∧ w.frozen? ⟨p, 5, none⟩ = false ∧ w.frozen? ⟨p, 6, none⟩ = false ∧ w.frozen? ⟨p, 7, none⟩ = false ∧ w.frozen? ⟨p, 8, none⟩ = false ∧ w.frozen? ⟨p, 9, none⟩ = false ∧ w.frozen? ⟨p, 10, none⟩ = false ∧ w.frozen? ⟨p, 11, none⟩ = false ∧ w.frozen? ⟨p, 12, none⟩ = false :=
  ⟨h.free (o := 0) (by omega), h.free (o := 1) (by omega), h.free (o := 2) (by omega), h.free (o := 3) (by omega), h.free (o := 4) (by omega), h.free (o := 5) (by omega), h.free (o := 6) (by omega), h.free (o := 7) (by omega), h.free (o := 8) (by omega), h.free (o := 9) (by omega), h.free (o := 10) (by omega), h.free (o := 11) (by omega), h.free (o := 12) (by omega)⟩

theorem uq_put {w : World} {r : Nat} {u0 : M1.Upd} (h : RowAt w r 13 (uq u0)) (u : M1.Upd) : RowAt (((((((((((((w.setCell ⟨r, 0, none⟩ (.int .i64 u.dr)).setCell ⟨r, 1, none⟩ (.int .i64 u.dn)).setCell ⟨r, 2, none⟩ (.int .i64 u.sw)).setCell ⟨r, 3, none⟩ (.int .i64 u.sc)).setCell ⟨r, 4, none⟩ (.int .i64 u.sr)).setCell ⟨r, 5, none⟩ (.int .i64 u.k)).setCell ⟨r, 6, none⟩ (.int .i64 u.tr)).setCell ⟨r, 7, none⟩ (.int .i64 u.id)).setCell ⟨r, 8, none⟩ (.int .i64 u.pa)).setCell ⟨r, 9, none⟩ (.string u.s)).setCell ⟨r, 10, none⟩ (.int .i64 u.st)).setCell ⟨r, 11, none⟩ (.int .i64 u.en)).setCell ⟨r, 12, none⟩ (.int .i64 u.lv)) r 13 (uq u) :=
  RowAt.same (((((((((((((h.set (o := 0) (by omega) (.int .i64 u.dr)).set (o := 1) (by omega) (.int .i64 u.dn)).set (o := 2) (by omega) (.int .i64 u.sw)).set (o := 3) (by omega) (.int .i64 u.sc)).set (o := 4) (by omega) (.int .i64 u.sr)).set (o := 5) (by omega) (.int .i64 u.k)).set (o := 6) (by omega) (.int .i64 u.tr)).set (o := 7) (by omega) (.int .i64 u.id)).set (o := 8) (by omega) (.int .i64 u.pa)).set (o := 9) (by omega) (.string u.s)).set (o := 10) (by omega) (.int .i64 u.st)).set (o := 11) (by omega) (.int .i64 u.en)).set (o := 12) (by omega) (.int .i64 u.lv)) (uq_same rfl rfl rfl rfl rfl rfl rfl rfl rfl rfl rfl rfl rfl)

theorem bel_put {a w : World} {B r : Nat} (h : Below B a w) (hr : B ≤ r) (u : M1.Upd) : Below B a (((((((((((((w.setCell ⟨r, 0, none⟩ (.int .i64 u.dr)).setCell ⟨r, 1, none⟩ (.int .i64 u.dn)).setCell ⟨r, 2, none⟩ (.int .i64 u.sw)).setCell ⟨r, 3, none⟩ (.int .i64 u.sc)).setCell ⟨r, 4, none⟩ (.int .i64 u.sr)).setCell ⟨r, 5, none⟩ (.int .i64 u.k)).setCell ⟨r, 6, none⟩ (.int .i64 u.tr)).setCell ⟨r, 7, none⟩ (.int .i64 u.id)).setCell ⟨r, 8, none⟩ (.int .i64 u.pa)).setCell ⟨r, 9, none⟩ (.string u.s)).setCell ⟨r, 10, none⟩ (.int .i64 u.st)).setCell ⟨r, 11, none⟩ (.int .i64 u.en)).setCell ⟨r, 12, none⟩ (.int .i64 u.lv)) := (((((((((((((h.setCell (p := ⟨r, 0, none⟩) hr (.int .i64 u.dr)).setCell (p := ⟨r, 1, none⟩) hr (.int .i64 u.dn)).setCell (p := ⟨r, 2, none⟩) hr (.int .i64 u.sw)).setCell (p := ⟨r, 3, none⟩) hr (.int .i64 u.sc)).setCell (p := ⟨r, 4, none⟩) hr (.int .i64 u.sr)).setCell (p := ⟨r, 5, none⟩) hr (.int .i64 u.k)).setCell (p := ⟨r, 6, none⟩) hr (.int .i64 u.tr)).setCell (p := ⟨r, 7, none⟩) hr (.int .i64 u.id)).setCell (p := ⟨r, 8, none⟩) hr (.int .i64 u.pa)).setCell (p := ⟨r, 9, none⟩) hr (.string u.s)).setCell (p := ⟨r, 10, none⟩) hr (.int .i64 u.st)).setCell (p := ⟨r, 11, none⟩) hr (.int .i64 u.en)).setCell (p := ⟨r, 12, none⟩) hr (.int .i64 u.lv))

theorem far13 {w : World} {k m r : Nat} {f : Nat → Value} (h : RowAt w k m f) (hn : r ≠ k) (u : M1.Upd) : RowAt (((((((((((((w.setCell ⟨r, 0, none⟩ (.int .i64 u.dr)).setCell ⟨r, 1, none⟩ (.int .i64 u.dn)).setCell ⟨r, 2, none⟩ (.int .i64 u.sw)).setCell ⟨r, 3, none⟩ (.int .i64 u.sc)).setCell ⟨r, 4, none⟩ (.int .i64 u.sr)).setCell ⟨r, 5, none⟩ (.int .i64 u.k)).setCell ⟨r, 6, none⟩ (.int .i64 u.tr)).setCell ⟨r, 7, none⟩ (.int .i64 u.id)).setCell ⟨r, 8, none⟩ (.int .i64 u.pa)).setCell ⟨r, 9, none⟩ (.string u.s)).setCell ⟨r, 10, none⟩ (.int .i64 u.st)).setCell ⟨r, 11, none⟩ (.int .i64 u.en)).setCell ⟨r, 12, none⟩ (.int .i64 u.lv)) k m f :=
  (((((((((((((h.far (p := ⟨r, 0, none⟩) hn (.int .i64 u.dr)).far (p := ⟨r, 1, none⟩) hn (.int .i64 u.dn)).far (p := ⟨r, 2, none⟩) hn (.int .i64 u.sw)).far (p := ⟨r, 3, none⟩) hn (.int .i64 u.sc)).far (p := ⟨r, 4, none⟩) hn (.int .i64 u.sr)).far (p := ⟨r, 5, none⟩) hn (.int .i64 u.k)).far (p := ⟨r, 6, none⟩) hn (.int .i64 u.tr)).far (p := ⟨r, 7, none⟩) hn (.int .i64 u.id)).far (p := ⟨r, 8, none⟩) hn (.int .i64 u.pa)).far (p := ⟨r, 9, none⟩) hn (.string u.s)).far (p := ⟨r, 10, none⟩) hn (.int .i64 u.st)).far (p := ⟨r, 11, none⟩) hn (.int .i64 u.en)).far (p := ⟨r, 12, none⟩) hn (.int .i64 u.lv))

end Go.Proofs.YtccendmoeelniaaGreatDoor
