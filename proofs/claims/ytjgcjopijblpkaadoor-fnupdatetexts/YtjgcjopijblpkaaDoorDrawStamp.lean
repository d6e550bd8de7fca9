/-
  The contract of the reader's method stamp: three numbers, each of its kind.
-/
import Derived.Test.YtjgcjopijblpkaaDoorDraw1
namespace Go.Proofs.YtjgcjopijblpkaaDoor
open Go.ChangeShapes Go.WideShapes Go.ChangeAt Go.RowKit

/-- Numbers that an int64 can be. -/
def I64 (x : Int) : Prop := -9223372036854775808 ≤ x ∧ x ≤ 9223372036854775807

set_option maxHeartbeats 4000000 in
theorem stamp_any (g : Nat) (av : Option Addr) (len cap : Nat) (w : World) (h : Rdr w g av len cap) :
    Calls Tryd.prog 52 #[.pointer (some ⟨g, 0, none⟩)] w fun e w' => ∃ a b c : Int, e = .returned (.agg #[.int .i64 a, .int .i64 b, .int .i64 c]) ∧ I64 a ∧ I64 b ∧ I64 c ∧ Rdr w' g av len cap ∧ Gr g w w' := by
  have hg := h.lt
  have hne0 : ¬ w.heap.size = g := by omega
  go_enter Tryd.func52, Tryd.ntmps52
  go_wp2_with fail
  refine (below_any _ _ _ _ _ _ (h.below ((Below.refl _ _).alloc (Nat.le_refl _) _)) (by omega) (by omega)).mono ?_
  rintro e w1 ⟨x, rfl, x0, x1, hR1, hG1⟩
  go_wp2_with fail
  refine (below_any _ _ _ _ _ _ hR1 (by omega) (by omega)).mono ?_
  rintro e w2 ⟨y, rfl, y0, y1, hR2, hG2⟩
  go_wp2_with fail
  refine (below_any _ _ _ _ _ _ hR2 (by omega) (by omega)).mono ?_
  rintro e w3 ⟨z, rfl, z0, z1, hR3, hG3⟩
  have hG := gr_trans hG1 (gr_trans hG2 hG3)
  clear hG1 hG2 hG3 hR1 hR2
  obtain ⟨rc, rf, rz, rn⟩ := gr_rules hG
  have hs3 := hG.size
  simp at hs3
  have hs3a : w.heap.size < w3.heap.size := by omega
  have hne3 : ¬ w3.heap.size = g := by have := hR3.lt; omega
  go_wp2_with fail
  refine (below_any _ _ _ _ _ _ (hR3.below ((Below.refl _ _).alloc (Nat.le_refl _) _)) (by omega) (by omega)).mono ?_
  rintro e w4 ⟨t, rfl, t0, t1, hR4, hG4⟩
  have hs4 := hG4.size
  simp at hs4
  obtain ⟨sc, sf, sz, sn⟩ := gr_rules hG4
  have hs4a : w.heap.size < w4.heap.size := by omega
  have hs4b : w3.heap.size < w4.heap.size := by omega
  have hs4c : w.heap.size < w3.heap.size + 1 := by omega
  by_cases a17 : t = 17
  · have b17 : (t == 17) = true := by simp [a17]
    clear a17
    go_wp2_with fail
    refine (off_any _ _ _ _ _ _ _ hR4 (by omega) (by omega) (by omega)).mono ?_
    rintro e w5 ⟨u, rfl, u0, u1, hR5, hG5⟩
    have hG5' := gr_trans hG4 hG5
    clear sc sf sz sn
    obtain ⟨sc, sf, sz, sn⟩ := gr_rules hG5'
    have hs5 := hG5'.size
    simp at hs5
    have hs5a : w.heap.size < w5.heap.size := by omega
    have hs5b : w3.heap.size < w5.heap.size := by omega
    go_wp2_with fail
    have HG : Gr g w w5 := gr_trans (gr_alloc (gr_refl g w) _) (gr_trans hG (gr_trans (gr_alloc (gr_refl g w3) _) hG5'))
    refine bodyPost_ret (v := .agg #[.int .i64 u, .int .i64 y, .int .i64 (1 + z)]) (by simp [results, Tryd.results52, go_sem, cell_set_same, *]) rfl ⟨_, _, _, rfl, by unfold I64; omega, by unfold I64; omega, by unfold I64; omega, ?_, ?_⟩
    · repeat (first | exact hR5 | ((with_reducible refine Rdr.far ?_ ?_ ?_ _); rotate_left; (focus (simp; omega)); (focus (exact h.old (by simp <;> omega)))))
    · repeat (first | exact HG | ((with_reducible refine gr_new ?_ _ ?_ _); rotate_left; (focus (simp <;> omega))))
  · have b17 : (t == 17) = false := by simp [a17]
    by_cases a18 : t = 18
    · have b18 : (t == 18) = true := by simp [a18]
      clear a17 a18
      go_wp2_with fail
      refine (below_any _ _ _ _ _ _ hR4 (by omega) (by omega)).mono ?_
      rintro e w5 ⟨u, rfl, u0, u1, hR5, hG5⟩
      have hG5' := gr_trans hG4 hG5
      clear sc sf sz sn
      obtain ⟨sc, sf, sz, sn⟩ := gr_rules hG5'
      have hs5 := hG5'.size
      simp at hs5
      have hs5a : w.heap.size < w5.heap.size := by omega
      have hs5b : w3.heap.size < w5.heap.size := by omega
      go_wp2_with fail
      have HG : Gr g w w5 := gr_trans (gr_alloc (gr_refl g w) _) (gr_trans hG (gr_trans (gr_alloc (gr_refl g w3) _) hG5'))
      refine bodyPost_ret (v := .agg #[.int .i64 x, .int .i64 (1000000 - u), .int .i64 (1 + z)]) (by simp [results, Tryd.results52, go_sem, cell_set_same, *]) rfl ⟨_, _, _, rfl, by unfold I64; omega, by unfold I64; omega, by unfold I64; omega, ?_, ?_⟩
      · repeat (first | exact hR5 | ((with_reducible refine Rdr.far ?_ ?_ ?_ _); rotate_left; (focus (simp; omega)); (focus (exact h.old (by simp <;> omega)))))
      · repeat (first | exact HG | ((with_reducible refine gr_new ?_ _ ?_ _); rotate_left; (focus (simp <;> omega))))
    · have b18 : (t == 18) = false := by simp [a18]
      by_cases a19 : t = 19
      · have b19 : (t == 19) = true := by simp [a19]
        clear a17 a18 a19
        go_wp2_with fail
        refine (off_any _ _ _ _ _ _ _ hR4 (by omega) (by omega) (by omega)).mono ?_
        rintro e w5 ⟨u, rfl, u0, u1, hR5, hG5⟩
        have hG5' := gr_trans hG4 hG5
        clear sc sf sz sn
        obtain ⟨sc, sf, sz, sn⟩ := gr_rules hG5'
        have hs5 := hG5'.size
        simp at hs5
        have hs5a : w.heap.size < w5.heap.size := by omega
        have hs5b : w3.heap.size < w5.heap.size := by omega
        go_wp2_with fail
        have HG : Gr g w w5 := gr_trans (gr_alloc (gr_refl g w) _) (gr_trans hG (gr_trans (gr_alloc (gr_refl g w3) _) hG5'))
        refine bodyPost_ret (v := .agg #[.int .i64 x, .int .i64 y, .int .i64 u]) (by simp [results, Tryd.results52, go_sem, cell_set_same, *]) rfl ⟨_, _, _, rfl, by unfold I64; omega, by unfold I64; omega, by unfold I64; omega, ?_, ?_⟩
        · repeat (first | exact hR5 | ((with_reducible refine Rdr.far ?_ ?_ ?_ _); rotate_left; (focus (simp; omega)); (focus (exact h.old (by simp <;> omega)))))
        · repeat (first | exact HG | ((with_reducible refine gr_new ?_ _ ?_ _); rotate_left; (focus (simp <;> omega))))
      · have b19 : (t == 19) = false := by simp [a19]
        clear a17 a18 a19
        go_wp2_with fail
        have HG : Gr g w w4 := gr_trans (gr_alloc (gr_refl g w) _) (gr_trans hG (gr_trans (gr_alloc (gr_refl g w3) _) hG4))
        refine bodyPost_ret (v := .agg #[.int .i64 x, .int .i64 y, .int .i64 (1 + z)]) (by simp [results, Tryd.results52, go_sem, cell_set_same, *]) rfl ⟨_, _, _, rfl, by unfold I64; omega, by unfold I64; omega, by unfold I64; omega, ?_, ?_⟩
        · repeat (first | exact hR4 | ((with_reducible refine Rdr.far ?_ ?_ ?_ _); rotate_left; (focus (simp; omega)); (focus (exact h.old (by simp <;> omega)))))
        · repeat (first | exact HG | ((with_reducible refine gr_new ?_ _ ?_ _); rotate_left; (focus (simp <;> omega))))
end Go.Proofs.YtjgcjopijblpkaaDoor
