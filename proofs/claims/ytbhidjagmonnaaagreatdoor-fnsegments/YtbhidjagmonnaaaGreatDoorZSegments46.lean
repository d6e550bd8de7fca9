/-
  Texts of one proof, joined: RdrUpd.
-/
import Derived.Test.YtbhidjagmonnaaaGreatDoorZSegments45
import Derived.Test.YtbhidjagmonnaaaGreatDoorZSegments18
namespace Go.Proofs.YtbhidjagmonnaaaGreatDoor
open Go.ChangeShapes Go.WideShapes Go.ChangeAt Go.RowKit
set_option linter.unusedSimpArgs false
set_option linter.unusedVariables false

def ucf (u : M1.Upd) (o : Nat) : Value := (ucs u).getD o undef
theorem ucf_same {f f' : Nat → Value} (h0 : f 0 = f' 0) (h1 : f 1 = f' 1) (h2 : f 2 = f' 2) (h3 : f 3 = f' 3) (h4 : f 4 = f' 4) (h5 : f 5 = f' 5) (h6 : f 6 = f' 6) (h7 : f 7 = f' 7) (h8 : f 8 = f' 8) (h9 : f 9 = f' 9) (h10 : f 10 = f' 10) (h11 : f 11 = f' 11) (h12 : f 12 = f' 12) : ∀ o, o < 13 → f o = f' o := fun o ho => by
  match o, ho with
  | 0, _ => exact h0
  | 1, _ => exact h1
  | 2, _ => exact h2
  | 3, _ => exact h3
  | 4, _ => exact h4
  | 5, _ => exact h5
  | 6, _ => exact h6
  | 7, _ => exact h7
  | 8, _ => exact h8
  | 9, _ => exact h9
  | 10, _ => exact h10
  | 11, _ => exact h11
  | 12, _ => exact h12
theorem rowU (w : World) (u : M1.Upd) (t : TypeId) : RowAt (w.alloc (.cells #[.int .i64 u.dr, .int .i64 u.dn, .int .i64 u.sw, .int .i64 u.sc, .int .i64 u.sr, .int .i64 u.k, .int .i64 u.tr, .int .i64 u.id, .int .i64 u.pa, .string u.s, .int .i64 u.st, .int .i64 u.en, .int .i64 u.lv] t)) w.heap.size 13 (ucf u) :=
  (RowAt.new w #[.int .i64 u.dr, .int .i64 u.dn, .int .i64 u.sw, .int .i64 u.sc, .int .i64 u.sr, .int .i64 u.k, .int .i64 u.tr, .int .i64 u.id, .int .i64 u.pa, .string u.s, .int .i64 u.st, .int .i64 u.en, .int .i64 u.lv] t).same (ucf_same rfl rfl rfl rfl rfl rfl rfl rfl rfl rfl rfl rfl rfl)

set_option maxHeartbeats 40000000 in
set_option maxRecDepth 100000 in
theorem update_any (g : Nat) (av : Option Addr) (len cap : Nat) (w : World) (h : Rdr w g av len cap) :
    Calls Tryz.prog 25 #[.pointer (some ⟨g, 0, none⟩)] w fun e w' => ∃ u : M1.Upd, e = .returned (.agg #[.int .i64 u.dr, .int .i64 u.dn, .int .i64 u.sw, .int .i64 u.sc, .int .i64 u.sr, .int .i64 u.k, .int .i64 u.tr, .int .i64 u.id, .int .i64 u.pa, .string u.s, .int .i64 u.st, .int .i64 u.en, .int .i64 u.lv]) ∧ u.s.size ≤ 4 ∧ 1 ≤ u.dr ∧ u.dr ≤ 3 ∧ Rdr w' g av len cap ∧ Gr g w w' := by
  have hg := h.lt
  have hne0 : ¬ w.heap.size = g := by omega
  go_enter Tryz.func25, Tryz.ntmps25
  go_wp2_with fail
  obtain ⟨W0, hW0⟩ : ∃ W, W = (w.alloc (.cells #[.int .i64 0, .int .i64 0, .int .i64 0, .int .i64 0, .int .i64 0, .int .i64 0, .int .i64 0, .int .i64 0, .int .i64 0, .string ⟨#[]⟩, .int .i64 0, .int .i64 0, .int .i64 0] 47)) := ⟨_, rfl⟩
  rw [← hW0]
  have hR0 : Rdr W0 g av len cap := by rw [hW0]; exact h.below ((Below.refl _ _).alloc (Nat.le_refl _) _)
  have hG0 : Gr g w W0 := by rw [hW0]; exact gr_alloc (gr_refl _ _) _
  have hz0 : W0.heap.size = w.heap.size + 1 := by rw [hW0]; simp
  have r0 : RowAt W0 w.heap.size 13 (ucf ⟨0, 0, 0, 0, 0, 0, 0, 0, 0, ⟨#[]⟩, 0, 0, 0⟩) := by rw [hW0]; exact rowU w ⟨0, 0, 0, 0, 0, 0, 0, 0, 0, ⟨#[]⟩, 0, 0, 0⟩ _
  clear hW0
  refine (below_any _ _ _ _ _ _ hR0 (by omega) (by omega)).mono ?_
  rintro e w1 ⟨x1, rfl, y1, z1, hR1, hG1⟩
  have hs1 := hG1.size
  go_wp2_with fail
  refine (below_any _ _ _ _ _ _ hR1 (by omega) (by omega)).mono ?_
  rintro e w2 ⟨x2, rfl, y2, z2, hR2, hGn⟩
  have hG2 := gr_trans hG1 hGn
  clear hGn
  go_wp2_with fail
  refine (below_any _ _ _ _ _ _ hR2 (by omega) (by omega)).mono ?_
  rintro e w3 ⟨x3, rfl, y3, z3, hR3, hGn⟩
  have hG3 := gr_trans hG2 hGn
  clear hGn
  go_wp2_with fail
  refine (below_any _ _ _ _ _ _ hR3 (by omega) (by omega)).mono ?_
  rintro e w4 ⟨x4, rfl, y4, z4, hR4, hGn⟩
  have hG4 := gr_trans hG3 hGn
  clear hGn
  go_wp2_with fail
  have hs4 := hG4.size
  have hw5 : ∀ o : Obj, Rdr (w4.alloc o) g av len cap ∧ Gr g W0 (w4.alloc o) := fun o => ⟨hR4.below ((Below.refl _ _).alloc (Nat.le_refl _) _), gr_alloc hG4 _⟩
  obtain ⟨w5, hW5⟩ : ∃ W, W = (w4.alloc (.cells #[.int .i64 (1 + x1), .int .i64 (1 + x2), .int .i64 (0), .int .i64 (0), .int .i64 (0), .int .i64 (1 + x3), .int .i64 (1 + x4), .int .i64 (0), .int .i64 (0), .string (⟨#[]⟩), .int .i64 (0), .int .i64 (0), .int .i64 (0)] 47)) := ⟨_, rfl⟩
  rw [← hW5]
  obtain ⟨hR, hG⟩ := hw5 (.cells #[.int .i64 (1 + x1), .int .i64 (1 + x2), .int .i64 (0), .int .i64 (0), .int .i64 (0), .int .i64 (1 + x3), .int .i64 (1 + x4), .int .i64 (0), .int .i64 (0), .string (⟨#[]⟩), .int .i64 (0), .int .i64 (0), .int .i64 (0)] 47)
  rw [← hW5] at hR hG
  have pr : RowAt w5 w4.heap.size 13 (ucf ⟨1 + x1, 1 + x2, 0, 0, 0, 1 + x3, 1 + x4, 0, 0, ⟨#[]⟩, 0, 0, 0⟩) := by rw [hW5]; exact rowU w4 ⟨1 + x1, 1 + x2, 0, 0, 0, 1 + x3, 1 + x4, 0, 0, ⟨#[]⟩, 0, 0, 0⟩ _
  clear hw5 hW5
  obtain ⟨p, hp⟩ : ∃ p, p = w4.heap.size := ⟨_, rfl⟩
  rw [← hp] at pr ⊢
  have hp0 : W0.heap.size ≤ p := by omega
  have hpg : ¬ p = g := by omega
  clear hp
  have pl := pr.lt
  have hs := hG.size
  refine (stamp_any _ _ _ _ _ hR).mono ?_
  rintro e w6 ⟨a, b, c, rfl, _, _, _, hRn, hGn⟩
  have pn := pr.gr hGn (by omega)
  have hGm := gr_trans hG hGn
  clear pr hR hG pl hs
  have pr := pn
  have hR := hRn
  have hG := hGm
  clear pn hRn hGn hGm
  have pl := pr.lt
  have hs := hG.size
  have k0 := pr.cell (o := 0) (by omega)
  have k1 := pr.cell (o := 1) (by omega)
  have k2 := pr.cell (o := 2) (by omega)
  have k3 := pr.cell (o := 3) (by omega)
  have k4 := pr.cell (o := 4) (by omega)
  have k5 := pr.cell (o := 5) (by omega)
  have k6 := pr.cell (o := 6) (by omega)
  have k7 := pr.cell (o := 7) (by omega)
  have k8 := pr.cell (o := 8) (by omega)
  have k9 := pr.cell (o := 9) (by omega)
  have k10 := pr.cell (o := 10) (by omega)
  have k11 := pr.cell (o := 11) (by omega)
  have k12 := pr.cell (o := 12) (by omega)
  have f0 := pr.free (o := 0) (by omega)
  have f1 := pr.free (o := 1) (by omega)
  have f2 := pr.free (o := 2) (by omega)
  have f3 := pr.free (o := 3) (by omega)
  have f4 := pr.free (o := 4) (by omega)
  have f5 := pr.free (o := 5) (by omega)
  have f6 := pr.free (o := 6) (by omega)
  have f7 := pr.free (o := 7) (by omega)
  have f8 := pr.free (o := 8) (by omega)
  have f9 := pr.free (o := 9) (by omega)
  have f10 := pr.free (o := 10) (by omega)
  have f11 := pr.free (o := 11) (by omega)
  have f12 := pr.free (o := 12) (by omega)
  simp [ucf, ucs] at k0 k1 k2 k3 k4 k5 k6 k7 k8 k9 k10 k11 k12
  by_cases e1 : x3 = 0
  · have b1 : (1 + x3 == 1) = true := by simp [e1]
    clear e1
    go_wp2_with fail
    clear k0 k1 k2 k3 k4 k5 k6 k7 k8 k9 k10 k11 k12 f0 f1 f2 f3 f4 f5 f6 f7 f8 f9 f10 f11 f12
    have pq : RowAt ((((w6.setCell ⟨p, 2, none⟩ (.int .i64 (a))).setCell ⟨p, 3, none⟩ (.int .i64 (b))).setCell ⟨p, 4, none⟩ (.int .i64 (c))).setCell ⟨p, 4, none⟩ (.int .i64 (1 + x1))) p 13 (ucf ⟨1 + x1, 1 + x2, a, b, 1 + x1, 1 + x3, 1 + x4, 0, 0, ⟨#[]⟩, 0, 0, 0⟩) := ((((pr.set (o := 2) (by omega) _).set (o := 3) (by omega) _).set (o := 4) (by omega) _).set (o := 4) (by omega) _).same (ucf_same rfl rfl rfl rfl rfl rfl rfl rfl rfl rfl rfl rfl rfl)
    have hRq : Rdr ((((w6.setCell ⟨p, 2, none⟩ (.int .i64 (a))).setCell ⟨p, 3, none⟩ (.int .i64 (b))).setCell ⟨p, 4, none⟩ (.int .i64 (c))).setCell ⟨p, 4, none⟩ (.int .i64 (1 + x1))) g av len cap := by
      repeat (first | (with_reducible exact hR) | ((with_reducible refine Rdr.far ?_ ?_ ?_ _); rotate_left; (focus (simp <;> omega)); (focus (exact h.old (by simp <;> omega)))))
    have hGq : Gr g W0 ((((w6.setCell ⟨p, 2, none⟩ (.int .i64 (a))).setCell ⟨p, 3, none⟩ (.int .i64 (b))).setCell ⟨p, 4, none⟩ (.int .i64 (c))).setCell ⟨p, 4, none⟩ (.int .i64 (1 + x1))) := by
      repeat (first | (with_reducible exact hG) | ((with_reducible refine gr_new ?_ _ ?_ _); rotate_left; (focus (simp <;> omega))))
    clear pr hR hG pl hs
    generalize hwq : ((((w6.setCell ⟨p, 2, none⟩ (.int .i64 (a))).setCell ⟨p, 3, none⟩ (.int .i64 (b))).setCell ⟨p, 4, none⟩ (.int .i64 (c))).setCell ⟨p, 4, none⟩ (.int .i64 (1 + x1))) = w7 at pq hRq hGq ⊢
    have pr := pq
    have hR := hRq
    have hG := hGq
    clear pq hRq hGq hwq
    have pl := pr.lt
    have hs := hG.size
    refine (span_any _ _ _ _ _ hR).mono ?_
    rintro e w8 ⟨ia, ib, is, ic, ie, rfl, ss, hRn, hGn⟩
    have pn := pr.gr hGn (by omega)
    have hGm := gr_trans hG hGn
    clear pr hR hG pl hs
    have pr := pn
    have hR := hRn
    have hG := hGm
    clear pn hRn hGn hGm
    have pl := pr.lt
    have hs := hG.size
    have k0 := pr.cell (o := 0) (by omega)
    have k1 := pr.cell (o := 1) (by omega)
    have k2 := pr.cell (o := 2) (by omega)
    have k3 := pr.cell (o := 3) (by omega)
    have k4 := pr.cell (o := 4) (by omega)
    have k5 := pr.cell (o := 5) (by omega)
    have k6 := pr.cell (o := 6) (by omega)
    have k7 := pr.cell (o := 7) (by omega)
    have k8 := pr.cell (o := 8) (by omega)
    have k9 := pr.cell (o := 9) (by omega)
    have k10 := pr.cell (o := 10) (by omega)
    have k11 := pr.cell (o := 11) (by omega)
    have k12 := pr.cell (o := 12) (by omega)
    have f0 := pr.free (o := 0) (by omega)
    have f1 := pr.free (o := 1) (by omega)
    have f2 := pr.free (o := 2) (by omega)
    have f3 := pr.free (o := 3) (by omega)
    have f4 := pr.free (o := 4) (by omega)
    have f5 := pr.free (o := 5) (by omega)
    have f6 := pr.free (o := 6) (by omega)
    have f7 := pr.free (o := 7) (by omega)
    have f8 := pr.free (o := 8) (by omega)
    have f9 := pr.free (o := 9) (by omega)
    have f10 := pr.free (o := 10) (by omega)
    have f11 := pr.free (o := 11) (by omega)
    have f12 := pr.free (o := 12) (by omega)
    simp [ucf, ucs] at k0 k1 k2 k3 k4 k5 k6 k7 k8 k9 k10 k11 k12
    go_wp2_with fail
    clear k0 k1 k2 k3 k4 k5 k6 k7 k8 k9 k10 k11 k12 f0 f1 f2 f3 f4 f5 f6 f7 f8 f9 f10 f11 f12
    have pq : RowAt (((((w8.setCell ⟨p, 7, none⟩ (.int .i64 (ia))).setCell ⟨p, 8, none⟩ (.int .i64 (ib))).setCell ⟨p, 9, none⟩ (.string (is))).setCell ⟨p, 10, none⟩ (.int .i64 (ic))).setCell ⟨p, 11, none⟩ (.int .i64 (ie))) p 13 (ucf ⟨1 + x1, 1 + x2, a, b, 1 + x1, 1 + x3, 1 + x4, ia, ib, is, ic, ie, 0⟩) := (((((pr.set (o := 7) (by omega) _).set (o := 8) (by omega) _).set (o := 9) (by omega) _).set (o := 10) (by omega) _).set (o := 11) (by omega) _).same (ucf_same rfl rfl rfl rfl rfl rfl rfl rfl rfl rfl rfl rfl rfl)
    have hRq : Rdr (((((w8.setCell ⟨p, 7, none⟩ (.int .i64 (ia))).setCell ⟨p, 8, none⟩ (.int .i64 (ib))).setCell ⟨p, 9, none⟩ (.string (is))).setCell ⟨p, 10, none⟩ (.int .i64 (ic))).setCell ⟨p, 11, none⟩ (.int .i64 (ie))) g av len cap := by
      repeat (first | (with_reducible exact hR) | ((with_reducible refine Rdr.far ?_ ?_ ?_ _); rotate_left; (focus (simp <;> omega)); (focus (exact h.old (by simp <;> omega)))))
    have hGq : Gr g W0 (((((w8.setCell ⟨p, 7, none⟩ (.int .i64 (ia))).setCell ⟨p, 8, none⟩ (.int .i64 (ib))).setCell ⟨p, 9, none⟩ (.string (is))).setCell ⟨p, 10, none⟩ (.int .i64 (ic))).setCell ⟨p, 11, none⟩ (.int .i64 (ie))) := by
      repeat (first | (with_reducible exact hG) | ((with_reducible refine gr_new ?_ _ ?_ _); rotate_left; (focus (simp <;> omega))))
    clear pr hR hG pl hs
    generalize hwq : (((((w8.setCell ⟨p, 7, none⟩ (.int .i64 (ia))).setCell ⟨p, 8, none⟩ (.int .i64 (ib))).setCell ⟨p, 9, none⟩ (.string (is))).setCell ⟨p, 10, none⟩ (.int .i64 (ic))).setCell ⟨p, 11, none⟩ (.int .i64 (ie))) = w9 at pq hRq hGq ⊢
    have pr := pq
    have hR := hRq
    have hG := hGq
    clear pq hRq hGq hwq
    have pl := pr.lt
    have hs := hG.size
    refine (once_any _ _ _ _ _ _ hR (by omega) (by omega)).mono ?_
    rintro e w10 ⟨on, rfl, hRn, hGn⟩
    have pn := pr.gr hGn (by omega)
    have hGm := gr_trans hG hGn
    clear pr hR hG pl hs
    have pr := pn
    have hR := hRn
    have hG := hGm
    clear pn hRn hGn hGm
    have pl := pr.lt
    have hs := hG.size
    cases on with
    | false =>
      have m0 := pr.cell (o := 0) (by omega)
      have m1 := pr.cell (o := 1) (by omega)
      have m2 := pr.cell (o := 2) (by omega)
      have m3 := pr.cell (o := 3) (by omega)
      have m4 := pr.cell (o := 4) (by omega)
      have m5 := pr.cell (o := 5) (by omega)
      have m6 := pr.cell (o := 6) (by omega)
      have m7 := pr.cell (o := 7) (by omega)
      have m8 := pr.cell (o := 8) (by omega)
      have m9 := pr.cell (o := 9) (by omega)
      have m10 := pr.cell (o := 10) (by omega)
      have m11 := pr.cell (o := 11) (by omega)
      have m12 := pr.cell (o := 12) (by omega)
      have n0 := pr.free (o := 0) (by omega)
      have n1 := pr.free (o := 1) (by omega)
      have n2 := pr.free (o := 2) (by omega)
      have n3 := pr.free (o := 3) (by omega)
      have n4 := pr.free (o := 4) (by omega)
      have n5 := pr.free (o := 5) (by omega)
      have n6 := pr.free (o := 6) (by omega)
      have n7 := pr.free (o := 7) (by omega)
      have n8 := pr.free (o := 8) (by omega)
      have n9 := pr.free (o := 9) (by omega)
      have n10 := pr.free (o := 10) (by omega)
      have n11 := pr.free (o := 11) (by omega)
      have n12 := pr.free (o := 12) (by omega)
      simp [ucf, ucs] at m0 m1 m2 m3 m4 m5 m6 m7 m8 m9 m10 m11 m12
      have rr := r0.gr hG (by omega)
      have rl := rr.lt
      have i0 := rr.cell (o := 0) (by omega)
      have i1 := rr.cell (o := 1) (by omega)
      have i2 := rr.cell (o := 2) (by omega)
      have i3 := rr.cell (o := 3) (by omega)
      have i4 := rr.cell (o := 4) (by omega)
      have i5 := rr.cell (o := 5) (by omega)
      have i6 := rr.cell (o := 6) (by omega)
      have i7 := rr.cell (o := 7) (by omega)
      have i8 := rr.cell (o := 8) (by omega)
      have i9 := rr.cell (o := 9) (by omega)
      have i10 := rr.cell (o := 10) (by omega)
      have i11 := rr.cell (o := 11) (by omega)
      have i12 := rr.cell (o := 12) (by omega)
      have j0 := rr.free (o := 0) (by omega)
      have j1 := rr.free (o := 1) (by omega)
      have j2 := rr.free (o := 2) (by omega)
      have j3 := rr.free (o := 3) (by omega)
      have j4 := rr.free (o := 4) (by omega)
      have j5 := rr.free (o := 5) (by omega)
      have j6 := rr.free (o := 6) (by omega)
      have j7 := rr.free (o := 7) (by omega)
      have j8 := rr.free (o := 8) (by omega)
      have j9 := rr.free (o := 9) (by omega)
      have j10 := rr.free (o := 10) (by omega)
      have j11 := rr.free (o := 11) (by omega)
      have j12 := rr.free (o := 12) (by omega)
      simp [ucf, ucs] at i0 i1 i2 i3 i4 i5 i6 i7 i8 i9 i10 i11 i12
      have HG : Gr g w w10 := gr_trans hG0 hG
      have hne1 : ¬ w.heap.size = p := by omega
      have hne2 : ¬ p = w.heap.size := by omega
      go_wp2_with fail
      refine bodyPost_ret (v := .agg #[.int .i64 (1 + x1), .int .i64 (1 + x2), .int .i64 (a), .int .i64 (b), .int .i64 (1 + x1), .int .i64 (1 + x3), .int .i64 (1 + x4), .int .i64 (ia), .int .i64 (ib), .string (is), .int .i64 (ic), .int .i64 (ie), .int .i64 (0)]) (by simp [results, Tryz.results25, go_sem, cell_set_same, *]) rfl ⟨⟨1 + x1, 1 + x2, a, b, 1 + x1, 1 + x3, 1 + x4, ia, ib, is, ic, ie, 0⟩, rfl, by first | assumption | exact Nat.zero_le 4, by simp <;> omega, by simp <;> omega, ?_, ?_⟩
      · repeat (first | (with_reducible exact hR) | ((with_reducible refine Rdr.far ?_ ?_ ?_ _); rotate_left; (focus (simp <;> omega)); (focus (exact h.old (by simp <;> omega)))))
      · repeat (first | (with_reducible exact HG) | ((with_reducible refine gr_new ?_ _ ?_ _); rotate_left; (focus (simp <;> omega))))
    | true =>
      go_wp2_with fail
      refine (off_any _ _ _ _ _ _ _ hR (by omega) (by omega) (by omega)).mono ?_
      rintro e w11 ⟨kk, rfl, _, _, hRn, hGn⟩
      have pn := pr.gr hGn (by omega)
      have hGm := gr_trans hG hGn
      clear pr hR hG pl hs
      have pr := pn
      have hR := hRn
      have hG := hGm
      clear pn hRn hGn hGm
      have pl := pr.lt
      have hs := hG.size
      have m0 := pr.cell (o := 0) (by omega)
      have m1 := pr.cell (o := 1) (by omega)
      have m2 := pr.cell (o := 2) (by omega)
      have m3 := pr.cell (o := 3) (by omega)
      have m4 := pr.cell (o := 4) (by omega)
      have m5 := pr.cell (o := 5) (by omega)
      have m6 := pr.cell (o := 6) (by omega)
      have m7 := pr.cell (o := 7) (by omega)
      have m8 := pr.cell (o := 8) (by omega)
      have m9 := pr.cell (o := 9) (by omega)
      have m10 := pr.cell (o := 10) (by omega)
      have m11 := pr.cell (o := 11) (by omega)
      have m12 := pr.cell (o := 12) (by omega)
      have n0 := pr.free (o := 0) (by omega)
      have n1 := pr.free (o := 1) (by omega)
      have n2 := pr.free (o := 2) (by omega)
      have n3 := pr.free (o := 3) (by omega)
      have n4 := pr.free (o := 4) (by omega)
      have n5 := pr.free (o := 5) (by omega)
      have n6 := pr.free (o := 6) (by omega)
      have n7 := pr.free (o := 7) (by omega)
      have n8 := pr.free (o := 8) (by omega)
      have n9 := pr.free (o := 9) (by omega)
      have n10 := pr.free (o := 10) (by omega)
      have n11 := pr.free (o := 11) (by omega)
      have n12 := pr.free (o := 12) (by omega)
      simp [ucf, ucs] at m0 m1 m2 m3 m4 m5 m6 m7 m8 m9 m10 m11 m12
      have rr := r0.gr hG (by omega)
      have rl := rr.lt
      have i0 := rr.cell (o := 0) (by omega)
      have i1 := rr.cell (o := 1) (by omega)
      have i2 := rr.cell (o := 2) (by omega)
      have i3 := rr.cell (o := 3) (by omega)
      have i4 := rr.cell (o := 4) (by omega)
      have i5 := rr.cell (o := 5) (by omega)
      have i6 := rr.cell (o := 6) (by omega)
      have i7 := rr.cell (o := 7) (by omega)
      have i8 := rr.cell (o := 8) (by omega)
      have i9 := rr.cell (o := 9) (by omega)
      have i10 := rr.cell (o := 10) (by omega)
      have i11 := rr.cell (o := 11) (by omega)
      have i12 := rr.cell (o := 12) (by omega)
      have j0 := rr.free (o := 0) (by omega)
      have j1 := rr.free (o := 1) (by omega)
      have j2 := rr.free (o := 2) (by omega)
      have j3 := rr.free (o := 3) (by omega)
      have j4 := rr.free (o := 4) (by omega)
      have j5 := rr.free (o := 5) (by omega)
      have j6 := rr.free (o := 6) (by omega)
      have j7 := rr.free (o := 7) (by omega)
      have j8 := rr.free (o := 8) (by omega)
      have j9 := rr.free (o := 9) (by omega)
      have j10 := rr.free (o := 10) (by omega)
      have j11 := rr.free (o := 11) (by omega)
      have j12 := rr.free (o := 12) (by omega)
      simp [ucf, ucs] at i0 i1 i2 i3 i4 i5 i6 i7 i8 i9 i10 i11 i12
      have HG : Gr g w w11 := gr_trans hG0 hG
      have hne1 : ¬ w.heap.size = p := by omega
      have hne2 : ¬ p = w.heap.size := by omega
      go_wp2_with fail
      refine bodyPost_ret (v := .agg #[.int .i64 (1 + x1), .int .i64 (1 + x2), .int .i64 (a), .int .i64 (b), .int .i64 (1 + x1), .int .i64 (kk), .int .i64 (1 + x4), .int .i64 (ia), .int .i64 (ib), .string (is), .int .i64 (ic), .int .i64 (ie), .int .i64 (0)]) (by simp [results, Tryz.results25, go_sem, cell_set_same, *]) rfl ⟨⟨1 + x1, 1 + x2, a, b, 1 + x1, kk, 1 + x4, ia, ib, is, ic, ie, 0⟩, rfl, by first | assumption | exact Nat.zero_le 4, by simp <;> omega, by simp <;> omega, ?_, ?_⟩
      · repeat (first | (with_reducible exact hR) | ((with_reducible refine Rdr.far ?_ ?_ ?_ _); rotate_left; (focus (simp <;> omega)); (focus (exact h.old (by simp <;> omega)))))
      · repeat (first | (with_reducible exact HG) | ((with_reducible refine gr_new ?_ _ ?_ _); rotate_left; (focus (simp <;> omega))))
  · have b1 : (1 + x3 == 1) = false := by simp; omega
    by_cases e3 : x3 = 2
    · have b3 : (1 + x3 == 3) = true := by simp [e3]
      clear e1 e3
      go_wp2_with fail
      clear k0 k1 k2 k3 k4 k5 k6 k7 k8 k9 k10 k11 k12 f0 f1 f2 f3 f4 f5 f6 f7 f8 f9 f10 f11 f12
      have pq : RowAt ((((w6.setCell ⟨p, 2, none⟩ (.int .i64 (a))).setCell ⟨p, 3, none⟩ (.int .i64 (b))).setCell ⟨p, 4, none⟩ (.int .i64 (c))).setCell ⟨p, 4, none⟩ (.int .i64 (1 + x1))) p 13 (ucf ⟨1 + x1, 1 + x2, a, b, 1 + x1, 1 + x3, 1 + x4, 0, 0, ⟨#[]⟩, 0, 0, 0⟩) := ((((pr.set (o := 2) (by omega) _).set (o := 3) (by omega) _).set (o := 4) (by omega) _).set (o := 4) (by omega) _).same (ucf_same rfl rfl rfl rfl rfl rfl rfl rfl rfl rfl rfl rfl rfl)
      have hRq : Rdr ((((w6.setCell ⟨p, 2, none⟩ (.int .i64 (a))).setCell ⟨p, 3, none⟩ (.int .i64 (b))).setCell ⟨p, 4, none⟩ (.int .i64 (c))).setCell ⟨p, 4, none⟩ (.int .i64 (1 + x1))) g av len cap := by
        repeat (first | (with_reducible exact hR) | ((with_reducible refine Rdr.far ?_ ?_ ?_ _); rotate_left; (focus (simp <;> omega)); (focus (exact h.old (by simp <;> omega)))))
      have hGq : Gr g W0 ((((w6.setCell ⟨p, 2, none⟩ (.int .i64 (a))).setCell ⟨p, 3, none⟩ (.int .i64 (b))).setCell ⟨p, 4, none⟩ (.int .i64 (c))).setCell ⟨p, 4, none⟩ (.int .i64 (1 + x1))) := by
        repeat (first | (with_reducible exact hG) | ((with_reducible refine gr_new ?_ _ ?_ _); rotate_left; (focus (simp <;> omega))))
      clear pr hR hG pl hs
      generalize hwq : ((((w6.setCell ⟨p, 2, none⟩ (.int .i64 (a))).setCell ⟨p, 3, none⟩ (.int .i64 (b))).setCell ⟨p, 4, none⟩ (.int .i64 (c))).setCell ⟨p, 4, none⟩ (.int .i64 (1 + x1))) = w7 at pq hRq hGq ⊢
      have pr := pq
      have hR := hRq
      have hG := hGq
      clear pq hRq hGq hwq
      have pl := pr.lt
      have hs := hG.size
      refine (below_any _ _ _ _ _ _ hR (by omega) (by omega)).mono ?_
      rintro e w8 ⟨lv, rfl, lv0, lv1, hRn, hGn⟩
      have pn := pr.gr hGn (by omega)
      have hGm := gr_trans hG hGn
      clear pr hR hG pl hs
      have pr := pn
      have hR := hRn
      have hG := hGm
      clear pn hRn hGn hGm
      have pl := pr.lt
      have hs := hG.size
      have k0 := pr.cell (o := 0) (by omega)
      have k1 := pr.cell (o := 1) (by omega)
      have k2 := pr.cell (o := 2) (by omega)
      have k3 := pr.cell (o := 3) (by omega)
      have k4 := pr.cell (o := 4) (by omega)
      have k5 := pr.cell (o := 5) (by omega)
      have k6 := pr.cell (o := 6) (by omega)
      have k7 := pr.cell (o := 7) (by omega)
      have k8 := pr.cell (o := 8) (by omega)
      have k9 := pr.cell (o := 9) (by omega)
      have k10 := pr.cell (o := 10) (by omega)
      have k11 := pr.cell (o := 11) (by omega)
      have k12 := pr.cell (o := 12) (by omega)
      have f0 := pr.free (o := 0) (by omega)
      have f1 := pr.free (o := 1) (by omega)
      have f2 := pr.free (o := 2) (by omega)
      have f3 := pr.free (o := 3) (by omega)
      have f4 := pr.free (o := 4) (by omega)
      have f5 := pr.free (o := 5) (by omega)
      have f6 := pr.free (o := 6) (by omega)
      have f7 := pr.free (o := 7) (by omega)
      have f8 := pr.free (o := 8) (by omega)
      have f9 := pr.free (o := 9) (by omega)
      have f10 := pr.free (o := 10) (by omega)
      have f11 := pr.free (o := 11) (by omega)
      have f12 := pr.free (o := 12) (by omega)
      simp [ucf, ucs] at k0 k1 k2 k3 k4 k5 k6 k7 k8 k9 k10 k11 k12
      go_wp2_with fail
      clear k0 k1 k2 k3 k4 k5 k6 k7 k8 k9 k10 k11 k12 f0 f1 f2 f3 f4 f5 f6 f7 f8 f9 f10 f11 f12
      have pq : RowAt (w8.setCell ⟨p, 12, none⟩ (.int .i64 (1 + lv))) p 13 (ucf ⟨1 + x1, 1 + x2, a, b, 1 + x1, 1 + x3, 1 + x4, 0, 0, ⟨#[]⟩, 0, 0, 1 + lv⟩) := (pr.set (o := 12) (by omega) _).same (ucf_same rfl rfl rfl rfl rfl rfl rfl rfl rfl rfl rfl rfl rfl)
      have hRq : Rdr (w8.setCell ⟨p, 12, none⟩ (.int .i64 (1 + lv))) g av len cap := by
        repeat (first | (with_reducible exact hR) | ((with_reducible refine Rdr.far ?_ ?_ ?_ _); rotate_left; (focus (simp <;> omega)); (focus (exact h.old (by simp <;> omega)))))
      have hGq : Gr g W0 (w8.setCell ⟨p, 12, none⟩ (.int .i64 (1 + lv))) := by
        repeat (first | (with_reducible exact hG) | ((with_reducible refine gr_new ?_ _ ?_ _); rotate_left; (focus (simp <;> omega))))
      clear pr hR hG pl hs
      generalize hwq : (w8.setCell ⟨p, 12, none⟩ (.int .i64 (1 + lv))) = w9 at pq hRq hGq ⊢
      have pr := pq
      have hR := hRq
      have hG := hGq
      clear pq hRq hGq hwq
      have pl := pr.lt
      have hs := hG.size
      refine (once_any _ _ _ _ _ _ hR (by omega) (by omega)).mono ?_
      rintro e w10 ⟨on, rfl, hRn, hGn⟩
      have pn := pr.gr hGn (by omega)
      have hGm := gr_trans hG hGn
      clear pr hR hG pl hs
      have pr := pn
      have hR := hRn
      have hG := hGm
      clear pn hRn hGn hGm
      have pl := pr.lt
      have hs := hG.size
      cases on with
      | false =>
        have m0 := pr.cell (o := 0) (by omega)
        have m1 := pr.cell (o := 1) (by omega)
        have m2 := pr.cell (o := 2) (by omega)
        have m3 := pr.cell (o := 3) (by omega)
        have m4 := pr.cell (o := 4) (by omega)
        have m5 := pr.cell (o := 5) (by omega)
        have m6 := pr.cell (o := 6) (by omega)
        have m7 := pr.cell (o := 7) (by omega)
        have m8 := pr.cell (o := 8) (by omega)
        have m9 := pr.cell (o := 9) (by omega)
        have m10 := pr.cell (o := 10) (by omega)
        have m11 := pr.cell (o := 11) (by omega)
        have m12 := pr.cell (o := 12) (by omega)
        have n0 := pr.free (o := 0) (by omega)
        have n1 := pr.free (o := 1) (by omega)
        have n2 := pr.free (o := 2) (by omega)
        have n3 := pr.free (o := 3) (by omega)
        have n4 := pr.free (o := 4) (by omega)
        have n5 := pr.free (o := 5) (by omega)
        have n6 := pr.free (o := 6) (by omega)
        have n7 := pr.free (o := 7) (by omega)
        have n8 := pr.free (o := 8) (by omega)
        have n9 := pr.free (o := 9) (by omega)
        have n10 := pr.free (o := 10) (by omega)
        have n11 := pr.free (o := 11) (by omega)
        have n12 := pr.free (o := 12) (by omega)
        simp [ucf, ucs] at m0 m1 m2 m3 m4 m5 m6 m7 m8 m9 m10 m11 m12
        have rr := r0.gr hG (by omega)
        have rl := rr.lt
        have i0 := rr.cell (o := 0) (by omega)
        have i1 := rr.cell (o := 1) (by omega)
        have i2 := rr.cell (o := 2) (by omega)
        have i3 := rr.cell (o := 3) (by omega)
        have i4 := rr.cell (o := 4) (by omega)
        have i5 := rr.cell (o := 5) (by omega)
        have i6 := rr.cell (o := 6) (by omega)
        have i7 := rr.cell (o := 7) (by omega)
        have i8 := rr.cell (o := 8) (by omega)
        have i9 := rr.cell (o := 9) (by omega)
        have i10 := rr.cell (o := 10) (by omega)
        have i11 := rr.cell (o := 11) (by omega)
        have i12 := rr.cell (o := 12) (by omega)
        have j0 := rr.free (o := 0) (by omega)
        have j1 := rr.free (o := 1) (by omega)
        have j2 := rr.free (o := 2) (by omega)
        have j3 := rr.free (o := 3) (by omega)
        have j4 := rr.free (o := 4) (by omega)
        have j5 := rr.free (o := 5) (by omega)
        have j6 := rr.free (o := 6) (by omega)
        have j7 := rr.free (o := 7) (by omega)
        have j8 := rr.free (o := 8) (by omega)
        have j9 := rr.free (o := 9) (by omega)
        have j10 := rr.free (o := 10) (by omega)
        have j11 := rr.free (o := 11) (by omega)
        have j12 := rr.free (o := 12) (by omega)
        simp [ucf, ucs] at i0 i1 i2 i3 i4 i5 i6 i7 i8 i9 i10 i11 i12
        have HG : Gr g w w10 := gr_trans hG0 hG
        have hne1 : ¬ w.heap.size = p := by omega
        have hne2 : ¬ p = w.heap.size := by omega
        go_wp2_with fail
        refine bodyPost_ret (v := .agg #[.int .i64 (1 + x1), .int .i64 (1 + x2), .int .i64 (a), .int .i64 (b), .int .i64 (1 + x1), .int .i64 (1 + x3), .int .i64 (1 + x4), .int .i64 (0), .int .i64 (0), .string (⟨#[]⟩), .int .i64 (0), .int .i64 (0), .int .i64 (1 + lv)]) (by simp [results, Tryz.results25, go_sem, cell_set_same, *]) rfl ⟨⟨1 + x1, 1 + x2, a, b, 1 + x1, 1 + x3, 1 + x4, 0, 0, ⟨#[]⟩, 0, 0, 1 + lv⟩, rfl, by first | assumption | exact Nat.zero_le 4, by simp <;> omega, by simp <;> omega, ?_, ?_⟩
        · repeat (first | (with_reducible exact hR) | ((with_reducible refine Rdr.far ?_ ?_ ?_ _); rotate_left; (focus (simp <;> omega)); (focus (exact h.old (by simp <;> omega)))))
        · repeat (first | (with_reducible exact HG) | ((with_reducible refine gr_new ?_ _ ?_ _); rotate_left; (focus (simp <;> omega))))
      | true =>
        go_wp2_with fail
        refine (off_any _ _ _ _ _ _ _ hR (by omega) (by omega) (by omega)).mono ?_
        rintro e w11 ⟨kk, rfl, _, _, hRn, hGn⟩
        have pn := pr.gr hGn (by omega)
        have hGm := gr_trans hG hGn
        clear pr hR hG pl hs
        have pr := pn
        have hR := hRn
        have hG := hGm
        clear pn hRn hGn hGm
        have pl := pr.lt
        have hs := hG.size
        have m0 := pr.cell (o := 0) (by omega)
        have m1 := pr.cell (o := 1) (by omega)
        have m2 := pr.cell (o := 2) (by omega)
        have m3 := pr.cell (o := 3) (by omega)
        have m4 := pr.cell (o := 4) (by omega)
        have m5 := pr.cell (o := 5) (by omega)
        have m6 := pr.cell (o := 6) (by omega)
        have m7 := pr.cell (o := 7) (by omega)
        have m8 := pr.cell (o := 8) (by omega)
        have m9 := pr.cell (o := 9) (by omega)
        have m10 := pr.cell (o := 10) (by omega)
        have m11 := pr.cell (o := 11) (by omega)
        have m12 := pr.cell (o := 12) (by omega)
        have n0 := pr.free (o := 0) (by omega)
        have n1 := pr.free (o := 1) (by omega)
        have n2 := pr.free (o := 2) (by omega)
        have n3 := pr.free (o := 3) (by omega)
        have n4 := pr.free (o := 4) (by omega)
        have n5 := pr.free (o := 5) (by omega)
        have n6 := pr.free (o := 6) (by omega)
        have n7 := pr.free (o := 7) (by omega)
        have n8 := pr.free (o := 8) (by omega)
        have n9 := pr.free (o := 9) (by omega)
        have n10 := pr.free (o := 10) (by omega)
        have n11 := pr.free (o := 11) (by omega)
        have n12 := pr.free (o := 12) (by omega)
        simp [ucf, ucs] at m0 m1 m2 m3 m4 m5 m6 m7 m8 m9 m10 m11 m12
        have rr := r0.gr hG (by omega)
        have rl := rr.lt
        have i0 := rr.cell (o := 0) (by omega)
        have i1 := rr.cell (o := 1) (by omega)
        have i2 := rr.cell (o := 2) (by omega)
        have i3 := rr.cell (o := 3) (by omega)
        have i4 := rr.cell (o := 4) (by omega)
        have i5 := rr.cell (o := 5) (by omega)
        have i6 := rr.cell (o := 6) (by omega)
        have i7 := rr.cell (o := 7) (by omega)
        have i8 := rr.cell (o := 8) (by omega)
        have i9 := rr.cell (o := 9) (by omega)
        have i10 := rr.cell (o := 10) (by omega)
        have i11 := rr.cell (o := 11) (by omega)
        have i12 := rr.cell (o := 12) (by omega)
        have j0 := rr.free (o := 0) (by omega)
        have j1 := rr.free (o := 1) (by omega)
        have j2 := rr.free (o := 2) (by omega)
        have j3 := rr.free (o := 3) (by omega)
        have j4 := rr.free (o := 4) (by omega)
        have j5 := rr.free (o := 5) (by omega)
        have j6 := rr.free (o := 6) (by omega)
        have j7 := rr.free (o := 7) (by omega)
        have j8 := rr.free (o := 8) (by omega)
        have j9 := rr.free (o := 9) (by omega)
        have j10 := rr.free (o := 10) (by omega)
        have j11 := rr.free (o := 11) (by omega)
        have j12 := rr.free (o := 12) (by omega)
        simp [ucf, ucs] at i0 i1 i2 i3 i4 i5 i6 i7 i8 i9 i10 i11 i12
        have HG : Gr g w w11 := gr_trans hG0 hG
        have hne1 : ¬ w.heap.size = p := by omega
        have hne2 : ¬ p = w.heap.size := by omega
        go_wp2_with fail
        refine bodyPost_ret (v := .agg #[.int .i64 (1 + x1), .int .i64 (1 + x2), .int .i64 (a), .int .i64 (b), .int .i64 (1 + x1), .int .i64 (kk), .int .i64 (1 + x4), .int .i64 (0), .int .i64 (0), .string (⟨#[]⟩), .int .i64 (0), .int .i64 (0), .int .i64 (1 + lv)]) (by simp [results, Tryz.results25, go_sem, cell_set_same, *]) rfl ⟨⟨1 + x1, 1 + x2, a, b, 1 + x1, kk, 1 + x4, 0, 0, ⟨#[]⟩, 0, 0, 1 + lv⟩, rfl, by first | assumption | exact Nat.zero_le 4, by simp <;> omega, by simp <;> omega, ?_, ?_⟩
        · repeat (first | (with_reducible exact hR) | ((with_reducible refine Rdr.far ?_ ?_ ?_ _); rotate_left; (focus (simp <;> omega)); (focus (exact h.old (by simp <;> omega)))))
        · repeat (first | (with_reducible exact HG) | ((with_reducible refine gr_new ?_ _ ?_ _); rotate_left; (focus (simp <;> omega))))
    · have b3 : (1 + x3 == 3) = false := by simp; omega
      clear e1 e3
      go_wp2_with fail
      clear k0 k1 k2 k3 k4 k5 k6 k7 k8 k9 k10 k11 k12 f0 f1 f2 f3 f4 f5 f6 f7 f8 f9 f10 f11 f12
      have pq : RowAt ((((w6.setCell ⟨p, 2, none⟩ (.int .i64 (a))).setCell ⟨p, 3, none⟩ (.int .i64 (b))).setCell ⟨p, 4, none⟩ (.int .i64 (c))).setCell ⟨p, 4, none⟩ (.int .i64 (1 + x1))) p 13 (ucf ⟨1 + x1, 1 + x2, a, b, 1 + x1, 1 + x3, 1 + x4, 0, 0, ⟨#[]⟩, 0, 0, 0⟩) := ((((pr.set (o := 2) (by omega) _).set (o := 3) (by omega) _).set (o := 4) (by omega) _).set (o := 4) (by omega) _).same (ucf_same rfl rfl rfl rfl rfl rfl rfl rfl rfl rfl rfl rfl rfl)
      have hRq : Rdr ((((w6.setCell ⟨p, 2, none⟩ (.int .i64 (a))).setCell ⟨p, 3, none⟩ (.int .i64 (b))).setCell ⟨p, 4, none⟩ (.int .i64 (c))).setCell ⟨p, 4, none⟩ (.int .i64 (1 + x1))) g av len cap := by
        repeat (first | (with_reducible exact hR) | ((with_reducible refine Rdr.far ?_ ?_ ?_ _); rotate_left; (focus (simp <;> omega)); (focus (exact h.old (by simp <;> omega)))))
      have hGq : Gr g W0 ((((w6.setCell ⟨p, 2, none⟩ (.int .i64 (a))).setCell ⟨p, 3, none⟩ (.int .i64 (b))).setCell ⟨p, 4, none⟩ (.int .i64 (c))).setCell ⟨p, 4, none⟩ (.int .i64 (1 + x1))) := by
        repeat (first | (with_reducible exact hG) | ((with_reducible refine gr_new ?_ _ ?_ _); rotate_left; (focus (simp <;> omega))))
      clear pr hR hG pl hs
      generalize hwq : ((((w6.setCell ⟨p, 2, none⟩ (.int .i64 (a))).setCell ⟨p, 3, none⟩ (.int .i64 (b))).setCell ⟨p, 4, none⟩ (.int .i64 (c))).setCell ⟨p, 4, none⟩ (.int .i64 (1 + x1))) = w7 at pq hRq hGq ⊢
      have pr := pq
      have hR := hRq
      have hG := hGq
      clear pq hRq hGq hwq
      have pl := pr.lt
      have hs := hG.size
      refine (once_any _ _ _ _ _ _ hR (by omega) (by omega)).mono ?_
      rintro e w8 ⟨on, rfl, hRn, hGn⟩
      have pn := pr.gr hGn (by omega)
      have hGm := gr_trans hG hGn
      clear pr hR hG pl hs
      have pr := pn
      have hR := hRn
      have hG := hGm
      clear pn hRn hGn hGm
      have pl := pr.lt
      have hs := hG.size
      cases on with
      | false =>
        have m0 := pr.cell (o := 0) (by omega)
        have m1 := pr.cell (o := 1) (by omega)
        have m2 := pr.cell (o := 2) (by omega)
        have m3 := pr.cell (o := 3) (by omega)
        have m4 := pr.cell (o := 4) (by omega)
        have m5 := pr.cell (o := 5) (by omega)
        have m6 := pr.cell (o := 6) (by omega)
        have m7 := pr.cell (o := 7) (by omega)
        have m8 := pr.cell (o := 8) (by omega)
        have m9 := pr.cell (o := 9) (by omega)
        have m10 := pr.cell (o := 10) (by omega)
        have m11 := pr.cell (o := 11) (by omega)
        have m12 := pr.cell (o := 12) (by omega)
        have n0 := pr.free (o := 0) (by omega)
        have n1 := pr.free (o := 1) (by omega)
        have n2 := pr.free (o := 2) (by omega)
        have n3 := pr.free (o := 3) (by omega)
        have n4 := pr.free (o := 4) (by omega)
        have n5 := pr.free (o := 5) (by omega)
        have n6 := pr.free (o := 6) (by omega)
        have n7 := pr.free (o := 7) (by omega)
        have n8 := pr.free (o := 8) (by omega)
        have n9 := pr.free (o := 9) (by omega)
        have n10 := pr.free (o := 10) (by omega)
        have n11 := pr.free (o := 11) (by omega)
        have n12 := pr.free (o := 12) (by omega)
        simp [ucf, ucs] at m0 m1 m2 m3 m4 m5 m6 m7 m8 m9 m10 m11 m12
        have rr := r0.gr hG (by omega)
        have rl := rr.lt
        have i0 := rr.cell (o := 0) (by omega)
        have i1 := rr.cell (o := 1) (by omega)
        have i2 := rr.cell (o := 2) (by omega)
        have i3 := rr.cell (o := 3) (by omega)
        have i4 := rr.cell (o := 4) (by omega)
        have i5 := rr.cell (o := 5) (by omega)
        have i6 := rr.cell (o := 6) (by omega)
        have i7 := rr.cell (o := 7) (by omega)
        have i8 := rr.cell (o := 8) (by omega)
        have i9 := rr.cell (o := 9) (by omega)
        have i10 := rr.cell (o := 10) (by omega)
        have i11 := rr.cell (o := 11) (by omega)
        have i12 := rr.cell (o := 12) (by omega)
        have j0 := rr.free (o := 0) (by omega)
        have j1 := rr.free (o := 1) (by omega)
        have j2 := rr.free (o := 2) (by omega)
        have j3 := rr.free (o := 3) (by omega)
        have j4 := rr.free (o := 4) (by omega)
        have j5 := rr.free (o := 5) (by omega)
        have j6 := rr.free (o := 6) (by omega)
        have j7 := rr.free (o := 7) (by omega)
        have j8 := rr.free (o := 8) (by omega)
        have j9 := rr.free (o := 9) (by omega)
        have j10 := rr.free (o := 10) (by omega)
        have j11 := rr.free (o := 11) (by omega)
        have j12 := rr.free (o := 12) (by omega)
        simp [ucf, ucs] at i0 i1 i2 i3 i4 i5 i6 i7 i8 i9 i10 i11 i12
        have HG : Gr g w w8 := gr_trans hG0 hG
        have hne1 : ¬ w.heap.size = p := by omega
        have hne2 : ¬ p = w.heap.size := by omega
        go_wp2_with fail
        refine bodyPost_ret (v := .agg #[.int .i64 (1 + x1), .int .i64 (1 + x2), .int .i64 (a), .int .i64 (b), .int .i64 (1 + x1), .int .i64 (1 + x3), .int .i64 (1 + x4), .int .i64 (0), .int .i64 (0), .string (⟨#[]⟩), .int .i64 (0), .int .i64 (0), .int .i64 (0)]) (by simp [results, Tryz.results25, go_sem, cell_set_same, *]) rfl ⟨⟨1 + x1, 1 + x2, a, b, 1 + x1, 1 + x3, 1 + x4, 0, 0, ⟨#[]⟩, 0, 0, 0⟩, rfl, by first | assumption | exact Nat.zero_le 4, by simp <;> omega, by simp <;> omega, ?_, ?_⟩
        · repeat (first | (with_reducible exact hR) | ((with_reducible refine Rdr.far ?_ ?_ ?_ _); rotate_left; (focus (simp <;> omega)); (focus (exact h.old (by simp <;> omega)))))
        · repeat (first | (with_reducible exact HG) | ((with_reducible refine gr_new ?_ _ ?_ _); rotate_left; (focus (simp <;> omega))))
      | true =>
        go_wp2_with fail
        refine (off_any _ _ _ _ _ _ _ hR (by omega) (by omega) (by omega)).mono ?_
        rintro e w9 ⟨kk, rfl, _, _, hRn, hGn⟩
        have pn := pr.gr hGn (by omega)
        have hGm := gr_trans hG hGn
        clear pr hR hG pl hs
        have pr := pn
        have hR := hRn
        have hG := hGm
        clear pn hRn hGn hGm
        have pl := pr.lt
        have hs := hG.size
        have m0 := pr.cell (o := 0) (by omega)
        have m1 := pr.cell (o := 1) (by omega)
        have m2 := pr.cell (o := 2) (by omega)
        have m3 := pr.cell (o := 3) (by omega)
        have m4 := pr.cell (o := 4) (by omega)
        have m5 := pr.cell (o := 5) (by omega)
        have m6 := pr.cell (o := 6) (by omega)
        have m7 := pr.cell (o := 7) (by omega)
        have m8 := pr.cell (o := 8) (by omega)
        have m9 := pr.cell (o := 9) (by omega)
        have m10 := pr.cell (o := 10) (by omega)
        have m11 := pr.cell (o := 11) (by omega)
        have m12 := pr.cell (o := 12) (by omega)
        have n0 := pr.free (o := 0) (by omega)
        have n1 := pr.free (o := 1) (by omega)
        have n2 := pr.free (o := 2) (by omega)
        have n3 := pr.free (o := 3) (by omega)
        have n4 := pr.free (o := 4) (by omega)
        have n5 := pr.free (o := 5) (by omega)
        have n6 := pr.free (o := 6) (by omega)
        have n7 := pr.free (o := 7) (by omega)
        have n8 := pr.free (o := 8) (by omega)
        have n9 := pr.free (o := 9) (by omega)
        have n10 := pr.free (o := 10) (by omega)
        have n11 := pr.free (o := 11) (by omega)
        have n12 := pr.free (o := 12) (by omega)
        simp [ucf, ucs] at m0 m1 m2 m3 m4 m5 m6 m7 m8 m9 m10 m11 m12
        have rr := r0.gr hG (by omega)
        have rl := rr.lt
        have i0 := rr.cell (o := 0) (by omega)
        have i1 := rr.cell (o := 1) (by omega)
        have i2 := rr.cell (o := 2) (by omega)
        have i3 := rr.cell (o := 3) (by omega)
        have i4 := rr.cell (o := 4) (by omega)
        have i5 := rr.cell (o := 5) (by omega)
        have i6 := rr.cell (o := 6) (by omega)
        have i7 := rr.cell (o := 7) (by omega)
        have i8 := rr.cell (o := 8) (by omega)
        have i9 := rr.cell (o := 9) (by omega)
        have i10 := rr.cell (o := 10) (by omega)
        have i11 := rr.cell (o := 11) (by omega)
        have i12 := rr.cell (o := 12) (by omega)
        have j0 := rr.free (o := 0) (by omega)
        have j1 := rr.free (o := 1) (by omega)
        have j2 := rr.free (o := 2) (by omega)
        have j3 := rr.free (o := 3) (by omega)
        have j4 := rr.free (o := 4) (by omega)
        have j5 := rr.free (o := 5) (by omega)
        have j6 := rr.free (o := 6) (by omega)
        have j7 := rr.free (o := 7) (by omega)
        have j8 := rr.free (o := 8) (by omega)
        have j9 := rr.free (o := 9) (by omega)
        have j10 := rr.free (o := 10) (by omega)
        have j11 := rr.free (o := 11) (by omega)
        have j12 := rr.free (o := 12) (by omega)
        simp [ucf, ucs] at i0 i1 i2 i3 i4 i5 i6 i7 i8 i9 i10 i11 i12
        have HG : Gr g w w9 := gr_trans hG0 hG
        have hne1 : ¬ w.heap.size = p := by omega
        have hne2 : ¬ p = w.heap.size := by omega
        go_wp2_with fail
        refine bodyPost_ret (v := .agg #[.int .i64 (1 + x1), .int .i64 (1 + x2), .int .i64 (a), .int .i64 (b), .int .i64 (1 + x1), .int .i64 (kk), .int .i64 (1 + x4), .int .i64 (0), .int .i64 (0), .string (⟨#[]⟩), .int .i64 (0), .int .i64 (0), .int .i64 (0)]) (by simp [results, Tryz.results25, go_sem, cell_set_same, *]) rfl ⟨⟨1 + x1, 1 + x2, a, b, 1 + x1, kk, 1 + x4, 0, 0, ⟨#[]⟩, 0, 0, 0⟩, rfl, by first | assumption | exact Nat.zero_le 4, by simp <;> omega, by simp <;> omega, ?_, ?_⟩
        · repeat (first | (with_reducible exact hR) | ((with_reducible refine Rdr.far ?_ ?_ ?_ _); rotate_left; (focus (simp <;> omega)); (focus (exact h.old (by simp <;> omega)))))
        · repeat (first | (with_reducible exact HG) | ((with_reducible refine gr_new ?_ _ ?_ _); rotate_left; (focus (simp <;> omega))))
end Go.Proofs.YtbhidjagmonnaaaGreatDoor
