/-
  The contract of DrawStampAhead: two stamps of numbers of their kind.
-/
import Derived.Test.YtmldlpmjdfomfaaBytes
import Derived.Test.YtmldlpmjdfomfaaDrawStamp
namespace Go.Proofs.Ytmldlpmjdfomfaa
open Go.ChangeShapes Go.WideShapes Go.ChangeAt Go.RowKit

set_option maxHeartbeats 4000000 in
theorem drawAhead_any (av : Option Addr) (len cap : Nat) (w : World) (h : IsBytes w av len cap) :
    Calls Try.prog 7 #[.slice av len cap] w fun e w' => ∃ a b c x y z : Int, e = .returned (.tuple #[.agg #[.int .i64 a, .int .i64 b, .int .i64 c], .agg #[.int .i64 x, .int .i64 y, .int .i64 z]]) ∧ I64 a ∧ I64 b ∧ I64 c ∧ I64 x ∧ I64 y ∧ I64 z ∧ Below w.heap.size w w' := by
  go_enter Try.func7, Try.ntmps7
  go_wp2_with fail
  refine (l1Open_any _ _ _ _ (h.below (Nat.le_refl _) (((Below.refl _ _).alloc (Nat.le_refl _) _).alloc (by simp) _))).mono ?_
  rintro e w1 ⟨rfl, hR1, hb1⟩
  have hB1 : Below w.heap.size w w1 := (((Below.refl _ _).alloc (Nat.le_refl _) _).alloc (by simp) _).trans (hb1.mono (by simp; omega))
  obtain ⟨hc1, hf1⟩ := bcell hb1
  have q0 : RowAt w1 w.heap.size 3 (fun _ => .int .i64 0) := ((RowAt.zero3 w 25).alloc _).below hb1
  have q1 : RowAt w1 (w.heap.size + 1) 3 (fun _ => .int .i64 0) := by
    have := (RowAt.zero3 (w.alloc (.cells #[.int .i64 0, .int .i64 0, .int .i64 0] 25)) 25).below hb1
    simpa using this
  have hs1 := hR1.lt
  simp at hs1
  have hs1a : w.heap.size < w1.heap.size := by omega
  have hs1b : w.heap.size + 1 < w1.heap.size := by omega
  have hn0 : ¬ w.heap.size = w.heap.size + 1 + 1 := by omega
  have hn1 : ¬ w.heap.size + 1 = w.heap.size + 1 + 1 := by omega
  go_wp2_with fail
  have hR1' : Rdr w1 (w.heap.size + 1 + 1) av len cap := by simpa using hR1
  refine (stamp_any _ _ _ _ _ hR1').mono ?_
  rintro e w2 ⟨a, b, c, rfl, ha, hb, hc, hR2, hG2⟩
  obtain ⟨rc, rf, rz, rn⟩ := gr_rules hG2
  have hs2 := hG2.size
  have hs2a : w.heap.size < w2.heap.size := by omega
  have hs2b : w.heap.size + 1 < w2.heap.size := by omega
  have hs2c : w.heap.size + 1 + 1 < w2.heap.size := by omega
  have hn2 : ¬ w2.heap.size = w.heap.size + 1 + 1 := by omega
  have hR3 := hR2.below ((Below.refl _ _).alloc (Nat.le_refl _) (.cells #[.int .i64 a, .int .i64 b, .int .i64 c] 25))
  go_wp2_with fail
  go_region_held3 (fun w' => w'.cell? ⟨w2.heap.size, 0, none⟩ = some (.int .i64 a) ∧ w'.cell? ⟨w2.heap.size, 1, none⟩ = some (.int .i64 b) ∧ w'.cell? ⟨w2.heap.size, 2, none⟩ = some (.int .i64 c))
    (first | go_keep | (refine ⟨?_, ?_, ?_⟩ <;> (go_simp; done)))
    (first | (go_at_call 30; refine (stamp_any _ _ _ _ _ (hR3.below (Below.refl _ _).drew)).mono ?_; rintro e w4 ⟨x, y, z, rfl, hx, hy, hz, hR4, hG4⟩; obtain ⟨sc, sf, sz, sn⟩ := gr_rules hG4))
  have hs4 := hG4.size
  simp at hs4
  have hs4a : w.heap.size < w4.heap.size := by omega
  have hs4b : w.heap.size + 1 < w4.heap.size := by omega
  have hs4c : w.heap.size < w2.heap.size + 1 := by omega
  have hs4d : w.heap.size + 1 < w2.heap.size + 1 := by omega
  have K1 : Below w.heap.size w1 w2 := gr_to hG2 (by omega) (by omega)
  have K2 := gr_to (B := w.heap.size) hG4 (by simp; omega) (by omega)
  have r0 := ((q0.gr hG2 (by omega)).alloc (.cells #[.int .i64 a, .int .i64 b, .int .i64 c] 25)).drew.gr hG4 (by omega)
  have r1 := ((q1.gr hG2 (by omega)).alloc (.cells #[.int .i64 a, .int .i64 b, .int .i64 c] 25)).drew.gr hG4 (by omega)
  go_wp2_with fail
  have p00 := r0.cell (o := 0) (by omega)
  have p01 := r0.cell (o := 1) (by omega)
  have p02 := r0.cell (o := 2) (by omega)
  have p10 := r1.cell (o := 0) (by omega)
  have p11 := r1.cell (o := 1) (by omega)
  have p12 := r1.cell (o := 2) (by omega)
  clear sc sf sz sn rc rf rz rn hc1 hf1
  refine bodyPost_ret (v := .tuple #[.agg #[.int .i64 a, .int .i64 b, .int .i64 c], .agg #[.int .i64 x, .int .i64 y, .int .i64 z]]) (by simp [results, Try.results7, go_sem, cell_set_same, *]) rfl ⟨a, b, c, x, y, z, rfl, ha, hb, hc, hx, hy, hz, ?_⟩
  repeat (first | (with_reducible exact Below.refl _ _) | ((with_reducible refine Below.setCell ?_ ?_ _); rotate_left; (focus (first | omega | (simp; done) | (simp; omega)))) | ((with_reducible refine Below.alloc ?_ ?_ _); rotate_left; (focus (first | omega | (simp; done) | (simp; omega)))) | (with_reducible refine Below.drew ?_) | ((with_reducible refine Below.trans ?_ (Below.mono K2 ?_)); rotate_left; (focus (first | omega | (simp; done) | (simp; omega)))) | ((with_reducible refine Below.trans ?_ (Below.mono K1 ?_)); rotate_left; (focus (first | omega | (simp; done) | (simp; omega)))) | ((with_reducible refine Below.trans ?_ (Below.mono hB1 ?_)); rotate_left; (focus (first | omega | (simp; done) | (simp; omega)))))
end Go.Proofs.Ytmldlpmjdfomfaa
