/-
  Texts of one proof, joined: Wl3.
-/
import Derived.Test.YtgcinolbkllkkaaGreatZXWorldOk28
namespace Go.Proofs.YtgcinolbkllkkaaGreat
open Go.ChangeShapes Go.WideShapes Go.ChangeAt Go.RowKit
set_option linter.unusedSimpArgs false
set_option linter.unusedVariables false
set_option maxHeartbeats 4000000 in
theorem toMail_any (m : M1.Ml) (v : Option Addr) (n c : Nat) (v2 : Option Addr) (n2 c2 : Nat) (w : World) (hv : IsVec w v n c m.vec) (hu : IsUpds w v2 n2 c2 m.del) (hn : n ≤ 1048576) (hn2 : n2 ≤ 1048576) :
  Calls Tryz.prog 77 #[.agg #[.int .i64 m.fr, .int .i64 m.tt, .bool m.ask, .slice v n c, .slice v2 n2 c2]] w fun e w' => ∃ g1 g2, e = .returned (.agg #[.int .i64 m.fr, .int .i64 m.tt, .bool m.ask, .slice (some ⟨g1, 0, none⟩) n n, .slice (some ⟨g2, 0, none⟩) n2 n2]) ∧ w.heap.size ≤ g1 ∧ w.heap.size ≤ g2 ∧ RowAt w' g1 (n * 2) (dcell m.vec) ∧ RowAt w' g2 (n2 * 13) (ucell m.del) ∧ Below w.heap.size w w' := by
 go_enter Tryz.func77, Tryz.ntmps77
 go_wp2_with fail
 refine (toDotS_any _ _ _ m.vec _ (hv.below (?_ : Below w.heap.size w _)) hn).mono ?_
 ·repeat (first | (with_reducible exact Below.refl _ _) | ((with_reducible refine Below.setCell ?_ ?_ _); rotate_left; (focus (first | omega | (simp; done) | (simp; omega)))) | ((with_reducible refine Below.alloc ?_ ?_ _); rotate_left; (focus (first | omega | (simp; done) | (simp; omega)))) | (with_reducible refine Below.drew ?_))
 rintro e w1 ⟨g1, rfl, hg1, r1, hb1⟩
 have hg1' : w.heap.size + 1 + 1 < g1 := by simp at hg1; omega
 have hgl1 := r1.lt
 obtain ⟨hc1, hf1⟩ := bcell hb1
 have hz1 := hb1.size
 simp at hz1
 have hz1a : w.heap.size < w1.heap.size := by omega
 have hz1b : w.heap.size + 1 < w1.heap.size := by omega
 have hz1c : w.heap.size + 1 + 1 < w1.heap.size := by omega
 go_wp2_with fail
 refine (toUpdateS_any _ _ _ m.del _ (hu.below (?_ : Below w.heap.size w _)) hn2).mono ?_
 ·repeat (first | (with_reducible exact Below.refl _ _) | ((with_reducible refine Below.setCell ?_ ?_ _); rotate_left; (focus (first | omega | (simp; done) | (simp; omega)))) | ((with_reducible refine Below.alloc ?_ ?_ _); rotate_left; (focus (first | omega | (simp; done) | (simp; omega)))) | (with_reducible refine Below.drew ?_) | ((with_reducible refine Below.trans ?_ (Below.mono hb1 ?_)); rotate_left; (focus (first | omega | (simp; done) | (simp; omega)))))
 rintro e w2 ⟨g2, rfl, hg2, r2, hb2⟩
 have hg2' : w.heap.size + 1 + 1 < g2 := by simp at hg2; omega
 have hgl2 := r2.lt
 have r1' : RowAt w2 g1 (n * 2) (dcell m.vec) := by
  refine RowAt.below ?_ hb2
  repeat (first | (with_reducible exact r1) | ((with_reducible refine RowAt.far ?_ ?_ _); rotate_left; (focus (simp <;> omega))))
 obtain ⟨hc2, hf2⟩ := bcell hb2
 have hz2 := hb2.size
 simp at hz2
 have hz2a : w.heap.size < w2.heap.size := by omega
 have hz2b : w.heap.size + 1 < w2.heap.size := by omega
 have hz2c : w.heap.size + 1 + 1 < w2.heap.size := by omega
 go_wp2_with fail
 refine bodyPost_ret (v := .agg #[.int .i64 m.fr, .int .i64 m.tt, .bool m.ask, .slice (some ⟨g1, 0, none⟩) n n, .slice (some ⟨g2, 0, none⟩) n2 n2]) (by simp [results, Tryz.results77, go_sem, cell_set_same, hc1, hc2, hz1a, hz1b, hz1c, hz2a, hz2b, hz2c]) rfl ⟨g1, g2, rfl, by omega, by omega, ?_, ?_, ?_⟩
 ·repeat (first | (with_reducible exact r1') | ((with_reducible refine RowAt.far ?_ ?_ _); rotate_left; (focus (simp <;> omega))))
 ·repeat (first | (with_reducible exact r2) | ((with_reducible refine RowAt.far ?_ ?_ _); rotate_left; (focus (simp <;> omega))))
 ·repeat (first | (with_reducible exact Below.refl _ _) | ((with_reducible refine Below.setCell ?_ ?_ _); rotate_left; (focus (first | omega | (simp; done) | (simp; omega)))) | ((with_reducible refine Below.alloc ?_ ?_ _); rotate_left; (focus (first | omega | (simp; done) | (simp; omega)))) | (with_reducible refine Below.drew ?_) | ((with_reducible refine Below.trans ?_ (Below.mono hb2 ?_)); rotate_left; (focus (first | omega | (simp; done) | (simp; omega)))) | ((with_reducible refine Below.trans ?_ (Below.mono hb1 ?_)); rotate_left; (focus (first | omega | (simp; done) | (simp; omega)))))

theorem infoMail0 : (Tryz.prog.info? 62).map (fun i => (i.zero, i.size, i.bytes)) = some (some (.agg #[.int .i64 0, .int .i64 0, .bool false, .slice none 0 0, .slice none 0 0]), 5, 72) := by kernel_rfl

theorem infoMail : ∃ i, Tryz.prog.info? 62 = some i ∧ i.zero = some (.agg #[.int .i64 0, .int .i64 0, .bool false, .slice none 0 0, .slice none 0 0]) ∧ i.size = 5 ∧ i.bytes = 72 := by
 have h := infoMail0
 cases e : Tryz.prog.info? 62 with
 | none => rw [e] at h; cases h
 | some i => rw [e] at h; simp at h; exact ⟨i, rfl, h.1, h.2.1, h.2.2⟩

def MlF (w : World) (g : Nat) (ms : List M1.Ml) (k : Nat) (f : Nat → Value) : Prop := ∀ i, i < k → ∃ d n d2 n2, g < d ∧ g < d2 ∧ f (i * 5) = .int .i64 (M1.mlA ms i).fr ∧ f (i * 5 + 1) = .int .i64 (M1.mlA ms i).tt ∧ f (i * 5 + 2) = .bool (M1.mlA ms i).ask ∧ f (i * 5 + 3) = .slice (some ⟨d, 0, none⟩) n n ∧ f (i * 5 + 4) = .slice (some ⟨d2, 0, none⟩) n2 n2 ∧ (M1.mlA ms i).vec.length = n ∧ (M1.mlA ms i).del.length = n2 ∧ RowAt w d (n * 2) (dcell (M1.mlA ms i).vec) ∧ RowAt w d2 (n2 * 13) (ucell (M1.mlA ms i).del)

theorem MlF.below {w w' : World} {g : Nat} {ms : List M1.Ml} {k : Nat} {f : Nat → Value} (h : MlF w g ms k f) (hb : Below w.heap.size w w') : MlF w' g ms k f := fun i hi => by
 obtain ⟨d, n, d2, n2, h0, h0', h1, h2, h3, h4, h5, h6, h7, r, r'⟩ := h i hi
 exact ⟨d, n, d2, n2, h0, h0', h1, h2, h3, h4, h5, h6, h7, r.below hb, r'.below hb⟩

set_option maxHeartbeats 4000000 in
set_option maxRecDepth 100000 in
theorem toMailS_any (av : Option Addr) (n cn : Nat) (ms : List M1.Ml) (w : World) (h1 : IsMls w av n cn ms) (hn : n ≤ 1048576) (hus : Hid (∀ i, i < n → (M1.mlA ms i).vec.length ≤ 1048576 ∧ (M1.mlA ms i).del.length ≤ 1048576)) (htx : Hid (∀ i, i < n → ∀ j, j < (M1.mlA ms i).del.length → (M1.up (M1.mlA ms i).del j).s.size ≤ maxLen)) :
  Calls Tryz.prog 46 #[.slice av n cn] w fun e w' => ∃ g, e = .returned (.slice (some ⟨g, 0, none⟩) n n) ∧ w.heap.size ≤ g ∧ IsMls w' (some ⟨g, 0, none⟩) n n ms ∧ Hid (∀ w'', Same w.heap.size w' w'' → IsMls w'' (some ⟨g, 0, none⟩) n n ms) ∧ Below w.heap.size w w' := by
 have hm1 := h1.hcap
 have hm2 := h1.hmost
 unfold maxLen at hm2
 obtain ⟨ti, hi1, hi2, hi3, hi4⟩ := infoMail
 have hi4' : Hid (ti.bytes = 72) := hi4
 have hi2' : Hid (ti.zero = some (.agg #[.int .i64 0, .int .i64 0, .bool false, .slice none 0 0, .slice none 0 0])) := hi2
 have hi3' : Hid (ti.size = 5) := hi3
 have hi1' : Hid (Tryz.prog.info? 62 = some ti) := hi1
 clear hi1 hi2 hi3 hi4
 go_enter Tryz.func46, Tryz.ntmps46
 go_wp2_with (at_make; refine wpList_make_full _ rfl _ _ _ rfl w.heap.size 62 ti _ 5 Tryz.underlying25 hi1'.out hi2'.out hi3'.out _ _ _ _ n rfl rfl rfl rfl (by rw [hi4'.out]; omega) (by unfold maxLen; omega) (Nat.le_refl _) ?_; intro w1 hown hgrow)
 have hrow0 := RowAt.of_owns hown
 have hB1 : Below w.heap.size w w1 := (Below.refl _ _).grown hgrow (Nat.le_refl _) (fun k e => by cases e)
 clear hown hgrow hi1' hi2' hi3' hi4'
 obtain ⟨g, hg⟩ : ∃ g, Hid (w.heap.size = g) := ⟨_, rfl⟩
 have hgw : w.heap.size ≤ g := by have := hg.out; omega
 rw [hg.out] at hrow0
 (try rw [hg.out])
 have hgl := hrow0.lt
 go_wp2_with fail
 go_loopw [4] (fun i wr => ∃ k : Nat, k ≤ n ∧ i = .int .i64 k ∧ Below w.heap.size w wr ∧ ∃ f, RowAt wr g (n * 5) f ∧ Hid (MlF wr g ms k f)) (fun i _ => n - (intOf i).toNat)
 case atStart => exact ⟨0, Nat.zero_le _, rfl, hB1, _, hrow0, fun i hi => absurd hi (Nat.not_lt_zero _)⟩
 case round =>
  clear hrow0 hB1 hgl
  obtain ⟨k, hk, rfl, hB, f, hrow, hall⟩ := hrel
  by_cases hlt : k < n
  ·have g1 := h1.below hB
   rcases g1.hlies with h0 | ⟨b, off, rfl, hb, hc⟩
   ·omega
   obtain ⟨v, m, c, v2, m2, c', c0, c1, c2, c3, c4, hv, hu⟩ := hc k hlt
   clear hc g1
   have i0 : (0 : Int) ≤ (k : Int) := by omega
   have i1 : (k : Int) < (n : Int) := by omega
   have hum : Hid ((M1.mlA ms k).vec.length = m ∧ (M1.mlA ms k).del.length = m2) := ⟨hv.hlen, hu.hlen⟩
   have hm9 : m ≤ 1048576 := by have := (hus.out k hlt).1; have := hum.out.1; omega
   have hm8 : m2 ≤ 1048576 := by have := (hus.out k hlt).2; have := hum.out.2; omega
   have hgr := hrow.lt
   obtain ⟨r, hr⟩ : ∃ r, Hid (M1.mlA ms k = r) := ⟨_, rfl⟩
   rw [hr.out] at c0 c1 c2 hv hu hum
   go_wp2_with fail
   refine (toMail_any r _ _ _ _ _ _ _ hv hu hm9 hm8).mono ?_
   rintro e w2 ⟨d, d9, rfl, hd, hd9, rowd, rowd9, hb2⟩
   have hrow2 := hrow.below hb2
   have hB2 := hB.trans (hb2.mono hB.size)
   have hall2 : Hid (MlF w2 g ms k f) := hall.out.below hb2
   have hdg : g < d := by omega
   have hdg9 : g < d9 := by omega
   have hgl2 := hrow2.lt
   have d0 := hrow2.cell (o := k * 5) (by omega)
   have f0 := hrow2.free (o := k * 5) (by omega)
   have d1 := hrow2.cell (o := k * 5 + 1) (by omega)
   have f1 := hrow2.free (o := k * 5 + 1) (by omega)
   have d2 := hrow2.cell (o := k * 5 + 2) (by omega)
   have f2 := hrow2.free (o := k * 5 + 2) (by omega)
   have d3 := hrow2.cell (o := k * 5 + 3) (by omega)
   have f3 := hrow2.free (o := k * 5 + 3) (by omega)
   have d4 := hrow2.cell (o := k * 5 + 4) (by omega)
   have f4 := hrow2.free (o := k * 5 + 4) (by omega)
   clear c0 c1 c2 c3 c4
   go_wp2_with fail
   refine ⟨⟨k + 1, by omega, by go_num, ((((hB2.setCell hgw _).setCell hgw _).setCell hgw _).setCell hgw _).setCell hgw _, _, ((((hrow2.set (o := k * 5) (by omega) _).set (o := k * 5 + 1) (by omega) _).set (o := k * 5 + 2) (by omega) _).set (o := k * 5 + 3) (by omega) _).set (o := k * 5 + 4) (by omega) _, fun i hi => ?_⟩, by simp [intOf]; omega⟩
   by_cases e : i = k
   ·subst e
    refine ⟨d, m, d9, m2, hdg, hdg9, ?_, ?_, ?_, ?_, ?_, by rw [hr.out]; exact hum.out.1, by rw [hr.out]; exact hum.out.2, ?_, ?_⟩
    ·rw [hr.out]; simp
    ·rw [hr.out]; simp
    ·rw [hr.out]; simp
    ·simp
    ·simp
    ·rw [hr.out]
     exact (((((rowd.far (p := ⟨g, _, none⟩) (by show g ≠ d; omega) _).far (p := ⟨g, _, none⟩) (by show g ≠ d; omega) _).far (p := ⟨g, _, none⟩) (by show g ≠ d; omega) _).far (p := ⟨g, _, none⟩) (by show g ≠ d; omega) _).far (p := ⟨g, _, none⟩) (by show g ≠ d; omega) _)
    ·rw [hr.out]
     exact (((((rowd9.far (p := ⟨g, _, none⟩) (by show g ≠ d9; omega) _).far (p := ⟨g, _, none⟩) (by show g ≠ d9; omega) _).far (p := ⟨g, _, none⟩) (by show g ≠ d9; omega) _).far (p := ⟨g, _, none⟩) (by show g ≠ d9; omega) _).far (p := ⟨g, _, none⟩) (by show g ≠ d9; omega) _)
   ·obtain ⟨d', n', d2', n2', h0, h0', q1, q2, q3, q4, q5, q6, q7, r', r2'⟩ := hall2.out i (by omega)
    refine ⟨d', n', d2', n2', h0, h0', ?_, ?_, ?_, ?_, ?_, q6, q7, ?_, ?_⟩
    ·simp only [if_neg (show ¬ i * 5 = k * 5 by omega), if_neg (show ¬ i * 5 = k * 5 + 1 by omega), if_neg (show ¬ i * 5 = k * 5 + 2 by omega), if_neg (show ¬ i * 5 = k * 5 + 3 by omega), if_neg (show ¬ i * 5 = k * 5 + 4 by omega)]; exact q1
    ·simp only [if_neg (show ¬ i * 5 + 1 = k * 5 by omega), if_neg (show ¬ i * 5 + 1 = k * 5 + 1 by omega), if_neg (show ¬ i * 5 + 1 = k * 5 + 2 by omega), if_neg (show ¬ i * 5 + 1 = k * 5 + 3 by omega), if_neg (show ¬ i * 5 + 1 = k * 5 + 4 by omega)]; exact q2
    ·simp only [if_neg (show ¬ i * 5 + 2 = k * 5 by omega), if_neg (show ¬ i * 5 + 2 = k * 5 + 1 by omega), if_neg (show ¬ i * 5 + 2 = k * 5 + 2 by omega), if_neg (show ¬ i * 5 + 2 = k * 5 + 3 by omega), if_neg (show ¬ i * 5 + 2 = k * 5 + 4 by omega)]; exact q3
    ·simp only [if_neg (show ¬ i * 5 + 3 = k * 5 by omega), if_neg (show ¬ i * 5 + 3 = k * 5 + 1 by omega), if_neg (show ¬ i * 5 + 3 = k * 5 + 2 by omega), if_neg (show ¬ i * 5 + 3 = k * 5 + 3 by omega), if_neg (show ¬ i * 5 + 3 = k * 5 + 4 by omega)]; exact q4
    ·simp only [if_neg (show ¬ i * 5 + 4 = k * 5 by omega), if_neg (show ¬ i * 5 + 4 = k * 5 + 1 by omega), if_neg (show ¬ i * 5 + 4 = k * 5 + 2 by omega), if_neg (show ¬ i * 5 + 4 = k * 5 + 3 by omega), if_neg (show ¬ i * 5 + 4 = k * 5 + 4 by omega)]; exact q5
    ·exact (((((r'.far (p := ⟨g, _, none⟩) (by show g ≠ d'; omega) _).far (p := ⟨g, _, none⟩) (by show g ≠ d'; omega) _).far (p := ⟨g, _, none⟩) (by show g ≠ d'; omega) _).far (p := ⟨g, _, none⟩) (by show g ≠ d'; omega) _).far (p := ⟨g, _, none⟩) (by show g ≠ d'; omega) _)
    ·exact (((((r2'.far (p := ⟨g, _, none⟩) (by show g ≠ d2'; omega) _).far (p := ⟨g, _, none⟩) (by show g ≠ d2'; omega) _).far (p := ⟨g, _, none⟩) (by show g ≠ d2'; omega) _).far (p := ⟨g, _, none⟩) (by show g ≠ d2'; omega) _).far (p := ⟨g, _, none⟩) (by show g ≠ d2'; omega) _)
  ·have hkn : Hid (k = n) := by show k = n; omega
   have hgl9 := hrow.lt
   have HR : Hid (∀ w'', Same w.heap.size wr w'' → IsMls w'' (some ⟨g, 0, none⟩) n n ms) := (fun w'' hS => ⟨h1.hlen, Nat.le_refl _, by unfold maxLen; omega, Or.inr ⟨g, 0, rfl, Nat.lt_of_lt_of_le hgl9 hS.1, fun i hi => by
    obtain ⟨d', n', d2', n2', h0, h0', q1, q2, q3, q4, q5, q6, q7, r', r2'⟩ := hall.out i (by have := hkn.out; omega)
    have hl9 := hus.out i hi
    refine ⟨some ⟨d', 0, none⟩, n', n', some ⟨d2', 0, none⟩, n2', n2', ?_, ?_, ?_, ?_, ?_, isVec_of_row q6 (Nat.le_refl _) (by unfold maxLen; omega) (row_same r' (by omega) hS), isUpds_of_row q7 (Nat.le_refl _) (by unfold maxLen; omega) (fun j hj => htx.out i hi j (by rw [q7]; exact hj)) (row_same r2' (by omega) hS)⟩
    ·rw [Nat.zero_add, ← q1]; exact (row_same hrow hgw hS).cell (o := i * 5) (by omega)
    ·rw [Nat.zero_add, ← q2]; exact (row_same hrow hgw hS).cell (o := i * 5 + 1) (by omega)
    ·rw [Nat.zero_add, ← q3]; exact (row_same hrow hgw hS).cell (o := i * 5 + 2) (by omega)
    ·rw [Nat.zero_add, ← q4]; exact (row_same hrow hgw hS).cell (o := i * 5 + 3) (by omega)
    ·rw [Nat.zero_add, ← q5]; exact (row_same hrow hgw hS).cell (o := i * 5 + 4) (by omega)⟩⟩ : ∀ w'', Same w.heap.size wr w'' → IsMls w'' (some ⟨g, 0, none⟩) n n ms)
   go_wp2_with fail
   go_ret
   exact ⟨_, rfl, hgw, HR.out _ (Same.refl _ _), HR, hB⟩

end Go.Proofs.YtgcinolbkllkkaaGreat
