/-
  Texts of one proof, joined: Er3, Tick.
-/
import Derived.Test.YtccendmoeelniaaGreatDoorZFIssued17
import Derived.Test.YtccendmoeelniaaGreatDoorZFIssued02
import Derived.Test.YtccendmoeelniaaGreatDoorZFIssued01
namespace Go.Proofs.YtccendmoeelniaaGreatDoor
open Go.ChangeShapes Go.WideShapes Go.ChangeAt Go.RowKit
set_option linter.unusedSimpArgs false
set_option linter.unusedVariables false
abbrev es (a : Addr) : Value := .iface 223 (.pointer (some a))

structure Sens (w : World) (s0 s1 s2 s3 s4 : Addr) : Prop where
 c0 : w.cell? ⟨0, 0, none⟩ = some (es s0)
 c1 : w.cell? ⟨1, 0, none⟩ = some (es s1)
 c2 : w.cell? ⟨2, 0, none⟩ = some (es s2)
 c3 : w.cell? ⟨3, 0, none⟩ = some (es s3)
 c4 : w.cell? ⟨4, 0, none⟩ = some (es s4)
 ct : w.cell? ⟨5, 0, none⟩ = some (.iface 187 (rt 82))
 b0 : ∃ c t, w.heap[s0.block]? = some (.cells c t (0, 0))
 b1 : ∃ c t, w.heap[s1.block]? = some (.cells c t (0, 0))
 b2 : ∃ c t, w.heap[s2.block]? = some (.cells c t (0, 0))
 b3 : ∃ c t, w.heap[s3.block]? = some (.cells c t (0, 0))
 b4 : ∃ c t, w.heap[s4.block]? = some (.cells c t (0, 0))
 n01 : s0 ≠ s1
 n02 : s0 ≠ s2
 n03 : s0 ≠ s3
 n04 : s0 ≠ s4
 n12 : s1 ≠ s2
 n13 : s1 ≠ s3
 n14 : s1 ≠ s4
 n23 : s2 ≠ s3
 n24 : s2 ≠ s4
 n34 : s3 ≠ s4
 g : 5 < w.heap.size

theorem kept_cells {w w' : World} (hb : Below w.heap.size w w') {s : Addr} (h : ∃ c t, w.heap[s.block]? = some (.cells c t (0, 0))) : ∃ c t, w'.heap[s.block]? = some (.cells c t (0, 0)) := by
 obtain ⟨c, t, e⟩ := h
 have hlt : s.block < w.heap.size := by
  rcases Nat.lt_or_ge s.block w.heap.size with q | q
  ·exact q
  ·rw [Array.getElem?_eq_none q] at e; cases e
 exact ⟨c, t, (hb.block _ hlt).trans e⟩

theorem Sens.below {w w' : World} {s0 s1 s2 s3 s4 : Addr} (h : Sens w s0 s1 s2 s3 s4) (hb : Below w.heap.size w w') : Sens w' s0 s1 s2 s3 s4 :=
 have g := h.g
 ⟨(hb.cell (p := ⟨0, 0, none⟩) (by show 0 < w.heap.size; omega)).trans h.c0, (hb.cell (p := ⟨1, 0, none⟩) (by show 1 < w.heap.size; omega)).trans h.c1, (hb.cell (p := ⟨2, 0, none⟩) (by show 2 < w.heap.size; omega)).trans h.c2, (hb.cell (p := ⟨3, 0, none⟩) (by show 3 < w.heap.size; omega)).trans h.c3, (hb.cell (p := ⟨4, 0, none⟩) (by show 4 < w.heap.size; omega)).trans h.c4, (hb.cell (p := ⟨5, 0, none⟩) (by show 5 < w.heap.size; omega)).trans h.ct, kept_cells hb h.b0, kept_cells hb h.b1, kept_cells hb h.b2, kept_cells hb h.b3, kept_cells hb h.b4, h.n01, h.n02, h.n03, h.n04, h.n12, h.n13, h.n14, h.n23, h.n24, h.n34, Nat.lt_of_lt_of_le h.g hb.size⟩

def senAt (s0 s1 s2 s3 s4 : Addr) : Nat → Addr
 | 1 => s0
 | 2 => s1
 | 3 => s4
 | 4 => s3
 | _ => s2

set_option maxHeartbeats 4000000 in
set_option maxRecDepth 100000 in
theorem codeOf_any (r k : Nat) (s0 s1 s2 s3 s4 : Addr) (w : World) (S : Sens w s0 s1 s2 s3 s4) (hk : 1 ≤ k ∧ k ≤ 5) (h : w.cell? ⟨r, 0, none⟩ = some (es (senAt s0 s1 s2 s3 s4 k))) :
  Calls Tryz.prog 47 #[.iface 126 (.pointer (some ⟨r, 0, none⟩))] w fun e w' => e = .returned (.int .i64 k) ∧ w' = w := by
 obtain ⟨x0, t0, b0⟩ := S.b0
 obtain ⟨x1, t1, b1⟩ := S.b1
 obtain ⟨x2, t2, b2⟩ := S.b2
 obtain ⟨x3, t3, b3⟩ := S.b3
 obtain ⟨x4, t4, b4⟩ := S.b4
 have c0 := S.c0
 have c1 := S.c1
 have c2 := S.c2
 have c3 := S.c3
 have c4 := S.c4
 rcases (by omega : k = 1 ∨ k = 2 ∨ k = 3 ∨ k = 4 ∨ k = 5) with rfl | rfl | rfl | rfl | rfl
 ·have h : w.cell? ⟨r, 0, none⟩ = some (es s0) := h
  go_enter Tryz.func47, Tryz.ntmps47
  go_wp2_with fail
  refine (is_wrap_same r 0 s0 w h).mono ?_
  rintro e w1 ⟨rfl, rfl⟩
  go_wp2_with fail
  go_ret
  exact ⟨rfl, rfl⟩
 ·have h : w.cell? ⟨r, 0, none⟩ = some (es s1) := h
  go_enter Tryz.func47, Tryz.ntmps47
  go_wp2_with fail
  refine (is_wrap_other r 0 s0 s1 _ _ _ _ w h (Ne.symm S.n01) b1 b0).mono ?_
  rintro e w1 ⟨rfl, rfl⟩
  go_wp2_with fail
  refine (is_wrap_same r 0 s1 w1 h).mono ?_
  rintro e w2 ⟨rfl, rfl⟩
  go_wp2_with fail
  go_ret
  exact ⟨rfl, rfl⟩
 ·have h : w.cell? ⟨r, 0, none⟩ = some (es s4) := h
  go_enter Tryz.func47, Tryz.ntmps47
  go_wp2_with fail
  refine (is_wrap_other r 0 s0 s4 _ _ _ _ w h (Ne.symm S.n04) b4 b0).mono ?_
  rintro e w1 ⟨rfl, rfl⟩
  go_wp2_with fail
  refine (is_wrap_other r 0 s1 s4 _ _ _ _ w1 h (Ne.symm S.n14) b4 b1).mono ?_
  rintro e w2 ⟨rfl, rfl⟩
  go_wp2_with fail
  refine (is_wrap_same r 0 s4 w2 h).mono ?_
  rintro e w3 ⟨rfl, rfl⟩
  go_wp2_with fail
  go_ret
  exact ⟨rfl, rfl⟩
 ·have h : w.cell? ⟨r, 0, none⟩ = some (es s3) := h
  go_enter Tryz.func47, Tryz.ntmps47
  go_wp2_with fail
  refine (is_wrap_other r 0 s0 s3 _ _ _ _ w h (Ne.symm S.n03) b3 b0).mono ?_
  rintro e w1 ⟨rfl, rfl⟩
  go_wp2_with fail
  refine (is_wrap_other r 0 s1 s3 _ _ _ _ w1 h (Ne.symm S.n13) b3 b1).mono ?_
  rintro e w2 ⟨rfl, rfl⟩
  go_wp2_with fail
  refine (is_wrap_other r 0 s4 s3 _ _ _ _ w2 h S.n34 b3 b4).mono ?_
  rintro e w3 ⟨rfl, rfl⟩
  go_wp2_with fail
  refine (is_wrap_same r 0 s3 w3 h).mono ?_
  rintro e w4 ⟨rfl, rfl⟩
  go_wp2_with fail
  go_ret
  exact ⟨rfl, rfl⟩
 ·have h : w.cell? ⟨r, 0, none⟩ = some (es s2) := h
  go_enter Tryz.func47, Tryz.ntmps47
  go_wp2_with fail
  refine (is_wrap_other r 0 s0 s2 _ _ _ _ w h (Ne.symm S.n02) b2 b0).mono ?_
  rintro e w1 ⟨rfl, rfl⟩
  go_wp2_with fail
  refine (is_wrap_other r 0 s1 s2 _ _ _ _ w1 h (Ne.symm S.n12) b2 b1).mono ?_
  rintro e w2 ⟨rfl, rfl⟩
  go_wp2_with fail
  refine (is_wrap_other r 0 s4 s2 _ _ _ _ w2 h S.n24 b2 b4).mono ?_
  rintro e w3 ⟨rfl, rfl⟩
  go_wp2_with fail
  refine (is_wrap_other r 0 s3 s2 _ _ _ _ w3 h S.n23 b2 b3).mono ?_
  rintro e w4 ⟨rfl, rfl⟩
  go_wp2_with fail
  refine (is_wrap_same r 0 s2 w4 h).mono ?_
  rintro e w5 ⟨rfl, rfl⟩
  go_wp2_with fail
  go_ret
  exact ⟨rfl, rfl⟩

end Go.Proofs.YtccendmoeelniaaGreatDoor

namespace Go.Proofs.YtccendmoeelniaaGreatDoor
open Go.ChangeShapes Go.WideShapes Go.ChangeAt Go.RowKit
theorem ticked_spec (a b c now : Int) (w : World) :
  Calls Tryz.prog 95 #[.agg #[.int .i64 a, .int .i64 b, .int .i64 c], .int .i64 now] w fun e w' => e = .returned (.tuple #[.agg #[.int .i64 (M1.tickP a b c now).a, .int .i64 (M1.tickP a b c now).b, .int .i64 (M1.tickP a b c now).c], .bool (M1.tickP a b c now).ok]) ∧ Below w.heap.size w w' := by
 by_cases h1 : M1.stOk a b c = true
 ·by_cases h2 : M1.inB now 0 1000000000 = true
  ·have e1 : M1.tickP a b c now = M1.nextP a b c now := by simp [M1.tickP, h1, h2]
   rw [e1]; clear e1
   have hb := M1.stOk_true h1
   have hb2 : 0 ≤ b ∧ b ≤ 1000000 := by omega
   clear hb
   go_enter Tryz.func95, Tryz.ntmps95
   go_wp2_with fail
   refine (stampOk_spec _ _ _ _).mono ?_
   rintro e w1 ⟨rfl, hb1⟩
   have hB1 := hb1
   clear hb1
   obtain ⟨hc1, hf1⟩ := bcell hB1
   have hz1 := hB1.size
   (try simp [Nat.succ_le_iff] at hz1)
   have hz1_0 : w.heap.size < w1.heap.size := by omega
   go_wp2_with ((go_at_call 65; refine (l1In_any _ _ _ _).mono ?_; rintro e w' ⟨rfl, rfl⟩))
   refine (next_spec _ _ _ _ _ hb2).mono ?_
   rintro e w2 ⟨rfl, hb2⟩
   have hB2 := hB1.trans (hb2.mono hB1.size)
   obtain ⟨hc2, hf2⟩ := bcell hB2
   have hz2 := hB2.size
   (try simp [Nat.succ_le_iff] at hz2)
   have hz2_0 : w.heap.size < w2.heap.size := by omega
   clear hb2 hB1 hc1 hf1 hz1 hz1_0
   go_wp2_with fail
   refine bodyPost_ret (v := .tuple #[.agg #[.int .i64 (M1.nextP a b c now).a, .int .i64 (M1.nextP a b c now).b, .int .i64 (M1.nextP a b c now).c], .bool (M1.nextP a b c now).ok]) (by simp [results, Tryz.results95, go_sem, *]) rfl ⟨rfl, ?_⟩
   repeat (first | (with_reducible exact Below.refl _ _) | ((with_reducible refine Below.setCell ?_ ?_ _); rotate_left; (focus (first | omega | (simp; done) | (simp; omega)))) | ((with_reducible refine Below.alloc ?_ ?_ _); rotate_left; (focus (first | omega | (simp; done) | (simp; omega)))) | (with_reducible refine Below.drew ?_) | ((with_reducible refine Below.trans ?_ (Below.mono hB2 ?_)); rotate_left; (focus (first | omega | (simp; done) | (simp; omega)))))
  ·have e1 : M1.tickP a b c now = ⟨0, 0, 0, false⟩ := by simp [M1.tickP, h2]
   rw [e1]; clear e1
   have h2' : M1.inB now 0 1000000000 = false := by simpa using h2
   go_enter Tryz.func95, Tryz.ntmps95
   go_wp2_with fail
   refine (stampOk_spec _ _ _ _).mono ?_
   rintro e w1 ⟨rfl, hb1⟩
   have hB1 := hb1
   clear hb1
   obtain ⟨hc1, hf1⟩ := bcell hB1
   have hz1 := hB1.size
   (try simp [Nat.succ_le_iff] at hz1)
   have hz1_0 : w.heap.size < w1.heap.size := by omega
   go_wp2_with ((go_at_call 65; refine (l1In_any _ _ _ _).mono ?_; rintro e w' ⟨rfl, rfl⟩))
   refine bodyPost_ret (v := .tuple #[.agg #[.int .i64 0, .int .i64 0, .int .i64 0], .bool false]) (by simp [results, Tryz.results95, go_sem, *]) rfl ⟨rfl, ?_⟩
   repeat (first | (with_reducible exact Below.refl _ _) | ((with_reducible refine Below.setCell ?_ ?_ _); rotate_left; (focus (first | omega | (simp; done) | (simp; omega)))) | ((with_reducible refine Below.alloc ?_ ?_ _); rotate_left; (focus (first | omega | (simp; done) | (simp; omega)))) | (with_reducible refine Below.drew ?_) | ((with_reducible refine Below.trans ?_ (Below.mono hB1 ?_)); rotate_left; (focus (first | omega | (simp; done) | (simp; omega)))))
 ·have e1 : M1.tickP a b c now = ⟨0, 0, 0, false⟩ := by simp [M1.tickP, h1]
  rw [e1]; clear e1
  have h1' : M1.stOk a b c = false := by simpa using h1
  go_enter Tryz.func95, Tryz.ntmps95
  go_wp2_with fail
  refine (stampOk_spec _ _ _ _).mono ?_
  rintro e w1 ⟨rfl, hb1⟩
  have hB1 := hb1
  clear hb1
  obtain ⟨hc1, hf1⟩ := bcell hB1
  have hz1 := hB1.size
  (try simp [Nat.succ_le_iff] at hz1)
  have hz1_0 : w.heap.size < w1.heap.size := by omega
  go_wp2_with ((go_at_call 65; refine (l1In_any _ _ _ _).mono ?_; rintro e w' ⟨rfl, rfl⟩))
  refine bodyPost_ret (v := .tuple #[.agg #[.int .i64 0, .int .i64 0, .int .i64 0], .bool false]) (by simp [results, Tryz.results95, go_sem, *]) rfl ⟨rfl, ?_⟩
  repeat (first | (with_reducible exact Below.refl _ _) | ((with_reducible refine Below.setCell ?_ ?_ _); rotate_left; (focus (first | omega | (simp; done) | (simp; omega)))) | ((with_reducible refine Below.alloc ?_ ?_ _); rotate_left; (focus (first | omega | (simp; done) | (simp; omega)))) | (with_reducible refine Below.drew ?_) | ((with_reducible refine Below.trans ?_ (Below.mono hB1 ?_)); rotate_left; (focus (first | omega | (simp; done) | (simp; omega)))))

theorem ticked_impl (a b c now : Int) (w : World) :
  Calls Tryz.prog 87 #[.agg #[.int .i64 a, .int .i64 b, .int .i64 c], .int .i64 now] w fun e w' => e = .returned (.tuple #[.agg #[.int .i64 (M1.tickP a b c now).a, .int .i64 (M1.tickP a b c now).b, .int .i64 (M1.tickP a b c now).c], .bool (M1.tickP a b c now).ok]) ∧ Below w.heap.size w w' := by
 by_cases h1 : M1.stOk a b c = true
 ·by_cases h2 : M1.inB now 0 1000000000 = true
  ·have e1 : M1.tickP a b c now = M1.nextP a b c now := by simp [M1.tickP, h1, h2]
   rw [e1]; clear e1
   have hb := M1.stOk_true h1
   have hb2 : 0 ≤ b ∧ b ≤ 1000000 := by omega
   clear hb
   obtain ⟨hb1, hb3⟩ := hb2
   by_cases h3 : a < now
   ·have e1 : M1.nextP a b c now = ⟨now, 0, c, true⟩ := by simp [M1.nextP, h3]
    rw [e1]; clear e1
    go_enter Tryz.func87, Tryz.ntmps87
    go_wp2_with fail
    refine (stampOk_impl _ _ _ _).mono ?_
    rintro e w1 ⟨rfl, hb1⟩
    have hB1 := hb1
    clear hb1
    obtain ⟨hc1, hf1⟩ := bcell hB1
    have hz1 := hB1.size
    (try simp [Nat.succ_le_iff] at hz1)
    have hz1_0 : w.heap.size < w1.heap.size := by omega
    go_wp2_with ((go_at_call 83; refine (timeOk_any _ _).mono ?_; rintro e w' ⟨rfl, rfl⟩))
    refine bodyPost_ret (v := .tuple #[.agg #[.int .i64 now, .int .i64 0, .int .i64 c], .bool true]) (by simp [results, Tryz.results87, go_sem, *]) rfl ⟨rfl, ?_⟩
    repeat (first | (with_reducible exact Below.refl _ _) | ((with_reducible refine Below.setCell ?_ ?_ _); rotate_left; (focus (first | omega | (simp; done) | (simp; omega)))) | ((with_reducible refine Below.alloc ?_ ?_ _); rotate_left; (focus (first | omega | (simp; done) | (simp; omega)))) | (with_reducible refine Below.drew ?_) | ((with_reducible refine Below.trans ?_ (Below.mono hB1 ?_)); rotate_left; (focus (first | omega | (simp; done) | (simp; omega)))))
   ·by_cases h4 : b = 1000000
    ·have e1 : M1.nextP a b c now = ⟨0, 0, 0, false⟩ := by simp [M1.nextP, h3, h4]
     rw [e1]; clear e1
     subst h4
     go_enter Tryz.func87, Tryz.ntmps87
     go_wp2_with fail
     refine (stampOk_impl _ _ _ _).mono ?_
     rintro e w1 ⟨rfl, hb1⟩
     have hB1 := hb1
     clear hb1
     obtain ⟨hc1, hf1⟩ := bcell hB1
     have hz1 := hB1.size
     (try simp [Nat.succ_le_iff] at hz1)
     have hz1_0 : w.heap.size < w1.heap.size := by omega
     go_wp2_with ((go_at_call 83; refine (timeOk_any _ _).mono ?_; rintro e w' ⟨rfl, rfl⟩))
     refine bodyPost_ret (v := .tuple #[.agg #[.int .i64 0, .int .i64 0, .int .i64 0], .bool false]) (by simp [results, Tryz.results87, go_sem, *]) rfl ⟨rfl, ?_⟩
     repeat (first | (with_reducible exact Below.refl _ _) | ((with_reducible refine Below.setCell ?_ ?_ _); rotate_left; (focus (first | omega | (simp; done) | (simp; omega)))) | ((with_reducible refine Below.alloc ?_ ?_ _); rotate_left; (focus (first | omega | (simp; done) | (simp; omega)))) | (with_reducible refine Below.drew ?_) | ((with_reducible refine Below.trans ?_ (Below.mono hB1 ?_)); rotate_left; (focus (first | omega | (simp; done) | (simp; omega)))))
    ·have e1 : M1.nextP a b c now = ⟨a, b + 1, c, true⟩ := by simp [M1.nextP, h3, h4]
     rw [e1]; clear e1
     have h5 : (b == 1000000) = false := by simp [h4]
     go_enter Tryz.func87, Tryz.ntmps87
     go_wp2_with fail
     refine (stampOk_impl _ _ _ _).mono ?_
     rintro e w1 ⟨rfl, hb1⟩
     have hB1 := hb1
     clear hb1
     obtain ⟨hc1, hf1⟩ := bcell hB1
     have hz1 := hB1.size
     (try simp [Nat.succ_le_iff] at hz1)
     have hz1_0 : w.heap.size < w1.heap.size := by omega
     go_wp2_with ((go_at_call 83; refine (timeOk_any _ _).mono ?_; rintro e w' ⟨rfl, rfl⟩))
     refine bodyPost_ret (v := .tuple #[.agg #[.int .i64 a, .int .i64 (b + 1), .int .i64 c], .bool true]) (by simp [results, Tryz.results87, go_sem, *]) rfl ⟨rfl, ?_⟩
     repeat (first | (with_reducible exact Below.refl _ _) | ((with_reducible refine Below.setCell ?_ ?_ _); rotate_left; (focus (first | omega | (simp; done) | (simp; omega)))) | ((with_reducible refine Below.alloc ?_ ?_ _); rotate_left; (focus (first | omega | (simp; done) | (simp; omega)))) | (with_reducible refine Below.drew ?_) | ((with_reducible refine Below.trans ?_ (Below.mono hB1 ?_)); rotate_left; (focus (first | omega | (simp; done) | (simp; omega)))))
  ·have e1 : M1.tickP a b c now = ⟨0, 0, 0, false⟩ := by simp [M1.tickP, h2]
   rw [e1]; clear e1
   have h2' : M1.inB now 0 1000000000 = false := by simpa using h2
   go_enter Tryz.func87, Tryz.ntmps87
   go_wp2_with fail
   refine (stampOk_impl _ _ _ _).mono ?_
   rintro e w1 ⟨rfl, hb1⟩
   have hB1 := hb1
   clear hb1
   obtain ⟨hc1, hf1⟩ := bcell hB1
   have hz1 := hB1.size
   (try simp [Nat.succ_le_iff] at hz1)
   have hz1_0 : w.heap.size < w1.heap.size := by omega
   go_wp2_with ((go_at_call 83; refine (timeOk_any _ _).mono ?_; rintro e w' ⟨rfl, rfl⟩))
   refine bodyPost_ret (v := .tuple #[.agg #[.int .i64 0, .int .i64 0, .int .i64 0], .bool false]) (by simp [results, Tryz.results87, go_sem, *]) rfl ⟨rfl, ?_⟩
   repeat (first | (with_reducible exact Below.refl _ _) | ((with_reducible refine Below.setCell ?_ ?_ _); rotate_left; (focus (first | omega | (simp; done) | (simp; omega)))) | ((with_reducible refine Below.alloc ?_ ?_ _); rotate_left; (focus (first | omega | (simp; done) | (simp; omega)))) | (with_reducible refine Below.drew ?_) | ((with_reducible refine Below.trans ?_ (Below.mono hB1 ?_)); rotate_left; (focus (first | omega | (simp; done) | (simp; omega)))))
 ·have e1 : M1.tickP a b c now = ⟨0, 0, 0, false⟩ := by simp [M1.tickP, h1]
  rw [e1]; clear e1
  have h1' : M1.stOk a b c = false := by simpa using h1
  go_enter Tryz.func87, Tryz.ntmps87
  go_wp2_with fail
  refine (stampOk_impl _ _ _ _).mono ?_
  rintro e w1 ⟨rfl, hb1⟩
  have hB1 := hb1
  clear hb1
  obtain ⟨hc1, hf1⟩ := bcell hB1
  have hz1 := hB1.size
  (try simp [Nat.succ_le_iff] at hz1)
  have hz1_0 : w.heap.size < w1.heap.size := by omega
  go_wp2_with ((go_at_call 83; refine (timeOk_any _ _).mono ?_; rintro e w' ⟨rfl, rfl⟩))
  refine bodyPost_ret (v := .tuple #[.agg #[.int .i64 0, .int .i64 0, .int .i64 0], .bool false]) (by simp [results, Tryz.results87, go_sem, *]) rfl ⟨rfl, ?_⟩
  repeat (first | (with_reducible exact Below.refl _ _) | ((with_reducible refine Below.setCell ?_ ?_ _); rotate_left; (focus (first | omega | (simp; done) | (simp; omega)))) | ((with_reducible refine Below.alloc ?_ ?_ _); rotate_left; (focus (first | omega | (simp; done) | (simp; omega)))) | (with_reducible refine Below.drew ?_) | ((with_reducible refine Below.trans ?_ (Below.mono hB1 ?_)); rotate_left; (focus (first | omega | (simp; done) | (simp; omega)))))

end Go.Proofs.YtccendmoeelniaaGreatDoor
