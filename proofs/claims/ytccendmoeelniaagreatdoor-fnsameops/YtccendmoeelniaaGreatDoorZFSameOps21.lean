/-
  Texts of one proof, joined: Cov, Dots, VecU, Rv1, Clone.
-/
import Derived.Test.YtccendmoeelniaaGreatDoorZFSameOps01
import Derived.Test.YtccendmoeelniaaGreatDoorZFSameOps03
import Derived.Test.YtccendmoeelniaaGreatDoorZFSameOps00
import Derived.Test.YtccendmoeelniaaGreatDoorZFSameOps16
import Derived.Test.YtccendmoeelniaaGreatDoorZFSameOps08
import Derived.Test.YtccendmoeelniaaGreatDoorZFSameOps19
import Derived.Test.YtccendmoeelniaaGreatDoorZFSameOps13
import Derived.Test.YtccendmoeelniaaGreatDoorZFSameOps20
import Derived.Test.YtccendmoeelniaaGreatDoorZFSameOps02
import Derived.Lib.Strings
import Derived.Lib.Walk
import Derived.Lib.BufferWrite
import Derived.Lib.UnsafeStr
import Derived.Lib.Hide
import Derived.Laws.MakeOwn
namespace Go.Proofs.YtccendmoeelniaaGreatDoor
open Go.ChangeShapes Go.WideShapes Go.ChangeAt Go.RowKit
theorem idx0 (a b c d e : Int) (w : World) : Sem.run Tryz.prog (Instr.index 96 (.agg #[.int .i64 a, .int .i64 b, .int .i64 c, .int .i64 d, .int .i64 e]) (.int .i64 0)) w = .ok (.int .i64 a) w := by kernel_rfl

theorem idx1 (a b c d e : Int) (w : World) : Sem.run Tryz.prog (Instr.index 96 (.agg #[.int .i64 a, .int .i64 b, .int .i64 c, .int .i64 d, .int .i64 e]) (.int .i64 1)) w = .ok (.int .i64 b) w := by kernel_rfl

theorem idx2 (a b c d e : Int) (w : World) : Sem.run Tryz.prog (Instr.index 96 (.agg #[.int .i64 a, .int .i64 b, .int .i64 c, .int .i64 d, .int .i64 e]) (.int .i64 2)) w = .ok (.int .i64 c) w := by kernel_rfl

theorem idx3 (a b c d e : Int) (w : World) : Sem.run Tryz.prog (Instr.index 96 (.agg #[.int .i64 a, .int .i64 b, .int .i64 c, .int .i64 d, .int .i64 e]) (.int .i64 3)) w = .ok (.int .i64 d) w := by kernel_rfl

theorem idx4 (a b c d e : Int) (w : World) : Sem.run Tryz.prog (Instr.index 96 (.agg #[.int .i64 a, .int .i64 b, .int .i64 c, .int .i64 d, .int .i64 e]) (.int .i64 4)) w = .ok (.int .i64 e) w := by kernel_rfl

end Go.Proofs.YtccendmoeelniaaGreatDoor

namespace Go.Proofs.YtccendmoeelniaaGreatDoor
open Go.ChangeShapes Go.WideShapes Go.ChangeAt Go.RowKit
def Joined (w w' : World) (e : Ending) (ds : List (Int × Int)) : Prop := ∃ v, e = .returned v ∧ w'.ownsRow w.heap.size 36 2 v ds.length (dcs ds)

end Go.Proofs.YtccendmoeelniaaGreatDoor

namespace Go.Proofs.YtccendmoeelniaaGreatDoor
open Go.ChangeShapes Go.WideShapes Go.ChangeAt Go.RowKit
set_option linter.unusedSimpArgs false
set_option maxHeartbeats 4000000 in
set_option maxRecDepth 100000 in
theorem lastOf_any (av : Option Addr) (n cn : Nat) (us : List M1.Upd) (w : World) (h1 : IsUpds w av n cn us) (hr : Hid (∀ j, j < n → 1 ≤ (M1.up us j).dr ∧ (M1.up us j).dr ≤ 5)) :
  Calls Tryz.prog 57 #[.slice av n cn] w fun e w' => e = .returned (.agg #[.int .i64 (M1.lastN us n 1), .int .i64 (M1.lastN us n 2), .int .i64 (M1.lastN us n 3), .int .i64 (M1.lastN us n 4), .int .i64 (M1.lastN us n 5)]) ∧ Below w.heap.size w w' := by
 have hm1 := h1.hcap
 have hm2 := h1.hmost
 unfold maxLen at hm2
 go_enter Tryz.func57, Tryz.ntmps57
 go_wp2_with fail
 go_loopw [8] (fun i wr => ∃ k : Nat, k ≤ n ∧ i = .int .i64 k ∧ Below w.heap.size w wr ∧ RowAt wr w.heap.size 5 (fun _ => .int .i64 0) ∧ RowAt wr (w.heap.size + 1) 5 (fun o => .int .i64 (M1.lastN us k (o + 1)))) (fun i _ => n - (intOf i).toNat)
 case atStart =>
  refine ⟨0, Nat.zero_le _, rfl, ?_, ?_, ?_⟩
  ·repeat (first | (with_reducible exact Below.refl _ _) | ((with_reducible refine Below.setCell ?_ ?_ _); rotate_left; (focus (first | omega | (simp; done) | (simp; omega)))) | ((with_reducible refine Below.alloc ?_ ?_ _); rotate_left; (focus (first | omega | (simp; done) | (simp; omega)))) | (with_reducible refine Below.drew ?_))
  ·exact (RowAt.zero5 _ _ _ (fun _ => rfl)).alloc _
  ·have := RowAt.zero5 (w.alloc (.cells #[.int .i64 0, .int .i64 0, .int .i64 0, .int .i64 0, .int .i64 0] 96)) 96 (fun o => .int .i64 (M1.lastN us 0 (o + 1))) (fun _ => rfl)
   simpa using this
 case round =>
  obtain ⟨k, hk, rfl, hB, hr0, hr1⟩ := hrel
  have hs0 := hr0.lt
  have hs1 := hr1.lt
  by_cases hlt : k < n
  ·have g1 := h1.below hB
   rcases g1.hlies with h0 | ⟨b, off, rfl, hb, hc⟩
   ·omega
   obtain ⟨c0, c1, c2, c3, c4, c5, c6, c7, c8, c9, c10, c11, c12⟩ := hc k hlt
   obtain ⟨q1, q2⟩ := hr.out k hlt
   have i0 : (0 : Int) ≤ (k : Int) := by omega
   have i1 : (k : Int) < (n : Int) := by omega
   clear hc g1
   have hr0' := hr0.alloc (.cells #[.int .i64 (M1.up us k).dr, .int .i64 (M1.up us k).dn, .int .i64 (M1.up us k).sw, .int .i64 (M1.up us k).sc, .int .i64 (M1.up us k).sr, .int .i64 (M1.up us k).k, .int .i64 (M1.up us k).tr, .int .i64 (M1.up us k).id, .int .i64 (M1.up us k).pa, .string (M1.up us k).s, .int .i64 (M1.up us k).st, .int .i64 (M1.up us k).en, .int .i64 (M1.up us k).lv] 38)
   have hr1' := hr1.alloc (.cells #[.int .i64 (M1.up us k).dr, .int .i64 (M1.up us k).dn, .int .i64 (M1.up us k).sw, .int .i64 (M1.up us k).sc, .int .i64 (M1.up us k).sr, .int .i64 (M1.up us k).k, .int .i64 (M1.up us k).tr, .int .i64 (M1.up us k).id, .int .i64 (M1.up us k).pa, .string (M1.up us k).s, .int .i64 (M1.up us k).st, .int .i64 (M1.up us k).en, .int .i64 (M1.up us k).lv] 38)
   have ht : ((M1.up us k).dr.toNat - 1) < 5 := by omega
   have d1 := hr1.cell (o := ((M1.up us k).dr.toNat - 1)) ht
   have d2 := hr1.free (o := ((M1.up us k).dr.toNat - 1)) ht
   have hne : ¬ w.heap.size + 1 = wr.heap.size := by omega
   go_wp2_with fail
   refine ⟨⟨k + 1, by omega, by go_num, ?_, ?_, ?_⟩, by simp [intOf]; omega⟩
   ·repeat (first | (with_reducible exact Below.refl _ _) | ((with_reducible refine Below.setCell ?_ ?_ _); rotate_left; (focus (first | omega | (simp; done) | (simp; omega)))) | ((with_reducible refine Below.alloc ?_ ?_ _); rotate_left; (focus (first | omega | (simp; done) | (simp; omega)))) | (with_reducible refine Below.drew ?_) | ((with_reducible refine Below.trans ?_ (Below.mono hB ?_)); rotate_left; (focus (first | omega | (simp; done) | (simp; omega)))))
   ·exact (hr0.far (by simp) _).alloc _
   ·refine ((hr1.set ht _).alloc _).same fun o ho => ?_
    show (if o = ((M1.up us k).dr.toNat - 1) then _ else _) = _
    rw [M1.lastN_succ]
    by_cases e : o = ((M1.up us k).dr.toNat - 1)
    ·rw [if_pos e, if_pos (by omega)]
    ·rw [if_neg e, if_neg (by omega)]
  ·have hkn : Hid (k = n) := (by omega : k = n)
   have z0 := hr0.cell (o := 0) (by omega)
   have z1 := hr0.cell (o := 1) (by omega)
   have z2 := hr0.cell (o := 2) (by omega)
   have z3 := hr0.cell (o := 3) (by omega)
   have z4 := hr0.cell (o := 4) (by omega)
   have y0 := hr0.free (o := 0) (by omega)
   have y1 := hr0.free (o := 1) (by omega)
   have y2 := hr0.free (o := 2) (by omega)
   have y3 := hr0.free (o := 3) (by omega)
   have y4 := hr0.free (o := 4) (by omega)
   have d0 := hr1.cell (o := 0) (by omega)
   have d1 := hr1.cell (o := 1) (by omega)
   have d2 := hr1.cell (o := 2) (by omega)
   have d3 := hr1.cell (o := 3) (by omega)
   have d4 := hr1.cell (o := 4) (by omega)
   go_wp2_with fail
   refine bodyPost_ret (v := .agg #[.int .i64 (M1.lastN us n 1), .int .i64 (M1.lastN us n 2), .int .i64 (M1.lastN us n 3), .int .i64 (M1.lastN us n 4), .int .i64 (M1.lastN us n 5)]) ?_ rfl ⟨rfl, ?_⟩
   ·rw [← hkn.out]
    simp [results, Tryz.results57, go_sem, cell_set_same, *]
   ·repeat (first | (with_reducible exact Below.refl _ _) | ((with_reducible refine Below.setCell ?_ ?_ _); rotate_left; (focus (first | omega | (simp; done) | (simp; omega)))) | ((with_reducible refine Below.alloc ?_ ?_ _); rotate_left; (focus (first | omega | (simp; done) | (simp; omega)))) | (with_reducible refine Below.drew ?_) | ((with_reducible refine Below.trans ?_ (Below.mono hB ?_)); rotate_left; (focus (first | omega | (simp; done) | (simp; omega)))))

end Go.Proofs.YtccendmoeelniaaGreatDoor

namespace Go.Proofs.YtccendmoeelniaaGreatDoor
open Go.ChangeShapes Go.WideShapes Go.ChangeAt Go.RowKit
set_option linter.unusedSimpArgs false
set_option linter.unusedVariables false
abbrev Rfs (w : World) (r : Nat) (s : Addr) (left : Option Addr) : Prop := RowAt w r 2 (fun o => [es s, .pointer left].getD o undef)

theorem rfs_new (w : World) (s : Addr) (left : Option Addr) : Rfs (w.alloc (.cells #[es s, .pointer left] 128)) w.heap.size s left :=
 (RowAt.new w #[es s, .pointer left] 128).same fun o ho => by
  match o, ho with
  | 0, _ => rfl
  | 1, _ => rfl

theorem refuse_any (p : Addr) (s : Addr) (w : World) :
  Calls Tryz.prog 85 #[.pointer (some p), es s] w fun e w' => ∃ r, e = .returned (.iface 126 (.pointer (some ⟨r, 0, none⟩))) ∧ Rfs w' r s (some p) ∧ w.heap.size ≤ r ∧ Below w.heap.size w w' := by
 have h1 := rfs_new w s (some p)
 go_enter Tryz.func85, Tryz.ntmps85
 go_wp2_with fail
 go_ret
 exact ⟨w.heap.size, rfl, h1, Nat.le_refl _, (Below.refl _ _).alloc (Nat.le_refl _) _⟩

abbrev StAt (w : World) (p : Nat) (a b c : Int) : Prop := RowAt w p 3 (fun o => [.int .i64 a, .int .i64 b, .int .i64 c].getD o undef)

theorem st_new (w : World) (a b c : Int) (t : TypeId) : StAt (w.alloc (.cells #[.int .i64 a, .int .i64 b, .int .i64 c] t)) w.heap.size a b c :=
 (RowAt.new w #[.int .i64 a, .int .i64 b, .int .i64 c] t).same fun o ho => by
  match o, ho with
  | 0, _ => rfl
  | 1, _ => rfl
  | 2, _ => rfl

theorem StAt.cells {w : World} {p : Nat} {a b c : Int} (h : StAt w p a b c) : w.cell? ⟨p, 0, none⟩ = some (.int .i64 a) ∧ w.cell? ⟨p, 1, none⟩ = some (.int .i64 b) ∧ w.cell? ⟨p, 2, none⟩ = some (.int .i64 c) := ⟨h.cell (o := 0) (by omega), h.cell (o := 1) (by omega), h.cell (o := 2) (by omega)⟩

theorem StAt.frees {w : World} {p : Nat} {a b c : Int} (h : StAt w p a b c) : w.frozen? ⟨p, 0, none⟩ = false ∧ w.frozen? ⟨p, 1, none⟩ = false ∧ w.frozen? ⟨p, 2, none⟩ = false := ⟨h.free (o := 0) (by omega), h.free (o := 1) (by omega), h.free (o := 2) (by omega)⟩

theorem StAt.put {w : World} {p : Nat} {a b c : Int} (h : StAt w p a b c) (x y z : Int) : StAt (((w.setCell ⟨p, 0, none⟩ (.int .i64 x)).setCell ⟨p, 1, none⟩ (.int .i64 y)).setCell ⟨p, 2, none⟩ (.int .i64 z)) p x y z :=
 RowAt.same (((h.set (o := 0) (by omega) (.int .i64 x)).set (o := 1) (by omega) (.int .i64 y)).set (o := 2) (by omega) (.int .i64 z)) fun o ho => by
  match o, ho with
  | 0, _ => rfl
  | 1, _ => rfl
  | 2, _ => rfl

end Go.Proofs.YtccendmoeelniaaGreatDoor

namespace Go.Proofs.YtccendmoeelniaaGreatDoor
open Go.ChangeShapes Go.WideShapes Go.ChangeAt Go.RowKit
set_option linter.unusedSimpArgs false
theorem infoU8 : (Tryz.prog.info? 5).map (fun i => (i.zero, i.size, i.bytes)) = some (some (.int .u8 0), 1, 1) := by kernel_rfl

set_option maxHeartbeats 4000000 in
set_option maxRecDepth 100000 in
theorem litClone_any (s : ByteArray) (w : World) (hlim : s.size ≤ 1048576) :
  Calls Tryz.prog 121 #[.string s] w fun e w' => e = .returned (.string s) ∧ Below w.heap.size w w' := by
 by_cases h0 : s.size = 0
 ·have hs : s = ⟨#[]⟩ := ByteArray.ext (Array.eq_empty_of_size_eq_zero h0)
  subst hs
  go_enter Tryz.func121, Tryz.ntmps121
  go_wp2
  go_ret
  exact ⟨rfl, Below.refl _ _⟩
 ·obtain ⟨i0, hi, hz0, hz1, hz2⟩ : ∃ i, Tryz.prog.info? 5 = some i ∧ i.zero = some (.int .u8 0) ∧ i.size = 1 ∧ i.bytes = 1 := by
   have h := infoU8
   cases e : Tryz.prog.info? 5 with
   | none => rw [e] at h; cases h
   | some i => rw [e] at h; simp at h; exact ⟨i, rfl, h.1, h.2.1, h.2.2⟩
  have hinfo : (Tryz.prog.info? 5).map (·.size) = some 1 := by rw [hi]; simp [hz1]
  have hco : Tryz.prog.cellsOf 5 = 1 := by simp [Program.cellsOf, hi, hz1]
  -- the row that is made
  obtain ⟨M, hM⟩ : ∃ M, M = madeCells (Value.int .u8 0).cells (((s.size : Nat) : Int).toNat * i0.size) := ⟨_, rfl⟩
  have hMs : M.size = s.size := by rw [hM, size_madeCells, hz1]; simp
  have hmk : ∀ W : World, (Instr.makeSlice 22 (.int .i64 (s.size : Int)) (.int .i64 (s.size : Int))).run Tryz.prog W = .ok (.slice (some ⟨W.heap.size, 0, none⟩) s.size s.size) (W.alloc (.cells M 5)) := fun W => by
   have h := run_make (P := Tryz.prog) W 22 5 i0 (.int .u8 0) Tryz.underlying22 hi hz0 .i64 .i64 (s.size : Int) (s.size : Int) (by omega) (by omega) (by rw [hz2]; omega) (by omega)
   rw [← hM] at h
   simpa using h
  clear hM
  -- the bytes that are copied into it
  have hcp := Lib.run_copy_row_string (P := Tryz.prog) (w.alloc (.cells M 5)) 22 9 3 5 w.heap.size 0 s.size s.size s M 5 Tryz.underlying22 hinfo (heap_alloc_new w _) (Nat.le_refl _) (by omega)
  obtain ⟨Y, hY⟩ : ∃ Y, Y = (M.toList.take 0 ++ Lib.byteCells s.data.toList ++ M.toList.drop (0 + s.size)).toArray := ⟨_, rfl⟩
  rw [← hY] at hcp
  have hYl : Y.toList = Lib.byteCells s.data.toList := by
   rw [hY, List.toList_toArray, List.take_zero, List.nil_append, List.drop_of_length_le (by rw [Array.length_toList]; omega), List.append_nil]
  have hYs : Y.size = s.size := by rw [← Array.length_toList, hYl, Lib.byteCells_length, ← Lib.size_eq]
  have hgY : ((w.alloc (.cells M 5)).setRow w.heap.size Y).heap[w.heap.size]? = some (.cells Y 5 (0, 0)) := setRow_heap _ _ M _ 5 (0, 0) (heap_alloc_new w _)
  -- the text over it
  have hne : s.data.toList ≠ [] := fun e => h0 (by rw [Lib.size_eq, e]; rfl)
  have hUS := Lib.run_unsafeString_row (P := Tryz.prog) ((w.alloc (.cells M 5)).setRow w.heap.size Y) 202 3 9 5 Tryz.underlying202 hco w.heap.size Y.size (by unfold World.shape?; rw [hgY]) s.data.toList hne (by rw [← Lib.size_eq]; omega) (by rw [← Lib.size_eq]; omega)
   (fun j x hx => Lib.cells_of_row hgY Y.size j _ (by rw [List.take_of_length_le (by rw [Array.length_toList]; exact Nat.le_refl _), hYl]; simp [Lib.byteCells, hx]))
  rw [← Lib.size_eq] at hUS
  clear hY
  go_enter Tryz.func121, Tryz.ntmps121
  go_wp2
  go_ret
  have hb1 : Below w.heap.size w (w.alloc (.cells M 5)) := (Below.refl _ w).alloc (Nat.le_refl _) _
  have hb2 : Below w.heap.size (w.alloc (.cells M 5)) ((w.alloc (.cells M 5)).setRow w.heap.size Y) := ⟨rfl, rfl, rfl, by simp, fun k hk => setRow_other _ _ _ _ (by omega)⟩
  exact ⟨rfl, Lib.below_freeze (hb1.trans hb2) (p := ⟨w.heap.size, 0, none⟩) (Nat.le_refl _) _⟩

theorem clone_any (s : ByteArray) (w : World) (hlim : s.size ≤ 1048576) :
  Calls Tryz.prog 91 #[.string s] w fun e w' => e = .returned (.string s) ∧ Below w.heap.size w w' := by
 go_enter Tryz.func91, Tryz.ntmps91
 go_wp2_with fail
 refine (litClone_any _ _ hlim).mono ?_
 rintro e w1 ⟨rfl, hb1⟩
 go_wp2_with fail
 go_ret
 exact ⟨rfl, hb1⟩

set_option maxHeartbeats 2000000 in
theorem copyOf_any (u : M1.Upd) (w : World) (hlim : u.s.size ≤ 1000) :
  Calls Tryz.prog 48 #[.agg #[.int .i64 u.dr, .int .i64 u.dn, .int .i64 u.sw, .int .i64 u.sc, .int .i64 u.sr, .int .i64 u.k, .int .i64 u.tr, .int .i64 u.id, .int .i64 u.pa, .string u.s, .int .i64 u.st, .int .i64 u.en, .int .i64 u.lv]] w fun e w' => e = .returned (.agg #[.int .i64 u.dr, .int .i64 u.dn, .int .i64 u.sw, .int .i64 u.sc, .int .i64 u.sr, .int .i64 u.k, .int .i64 u.tr, .int .i64 u.id, .int .i64 u.pa, .string u.s, .int .i64 u.st, .int .i64 u.en, .int .i64 u.lv]) ∧ Below w.heap.size w w' := by
 go_enter Tryz.func48, Tryz.ntmps48
 go_wp2_with fail
 refine (clone_any _ _ (by omega)).mono ?_
 rintro e w1 ⟨rfl, hb1⟩
 obtain ⟨hc1, hf1⟩ := bcell hb1
 have hz1 := hb1.size
 simp at hz1
 have hz1a : w.heap.size < w1.heap.size := by omega
 have hz1b : w.heap.size + 1 < w1.heap.size := by omega
 have c9 : (w1.setCell ⟨w.heap.size, 9, none⟩ (.string u.s)).cell? ⟨w.heap.size, 9, none⟩ = some (.string u.s) := cell_set_same _ _ _ (by rw [hc1 _ _ (by simp; omega)]; simp)
 go_wp2_with fail
 refine bodyPost_ret (v := .agg #[.int .i64 u.dr, .int .i64 u.dn, .int .i64 u.sw, .int .i64 u.sc, .int .i64 u.sr, .int .i64 u.k, .int .i64 u.tr, .int .i64 u.id, .int .i64 u.pa, .string u.s, .int .i64 u.st, .int .i64 u.en, .int .i64 u.lv]) (by simp [results, Tryz.results48, go_sem, cell_set_same, hc1, hz1a, hz1b]) rfl ⟨rfl, ?_⟩
 repeat (first | (with_reducible exact Below.refl _ _) | ((with_reducible refine Below.setCell ?_ ?_ _); rotate_left; (focus (first | omega | (simp; done) | (simp; omega)))) | ((with_reducible refine Below.alloc ?_ ?_ _); rotate_left; (focus (first | omega | (simp; done) | (simp; omega)))) | (with_reducible refine Below.drew ?_) | ((with_reducible refine Below.trans ?_ (Below.mono hb1 ?_)); rotate_left; (focus (first | omega | (simp; done) | (simp; omega)))))

end Go.Proofs.YtccendmoeelniaaGreatDoor
