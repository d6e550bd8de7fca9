/-
  Texts of one proof, joined: Wl4.
-/
import Derived.Test.YtgcinolbkllkkaaGreatZXWorldOk46
namespace Go.Proofs.YtgcinolbkllkkaaGreat
open Go.ChangeShapes Go.WideShapes Go.ChangeAt Go.RowKit
set_option linter.unusedSimpArgs false
set_option linter.unusedVariables false
set_option maxHeartbeats 2000000 in
theorem szWorld_any (now : Int) (v : Option Addr) (n c : Nat) (rs : List M1.Rg) (v2 : Option Addr) (n2 c2 : Nat) (ms : List M1.Ml) (left : Int) (w : World) (hr : IsRgs w v n c rs) (hm : IsMls w v2 n2 c2 ms) (h0 : 0 ≤ left) (hl : left ≤ 1048576) :
  Calls Tryz.prog 17 #[.agg #[.int .i64 now, .slice v n c, .slice v2 n2 c2], .int .i64 left] w fun e w' => ((∃ r, Hid (((n : Int) ≤ 1048576 ∧ (n2 : Int) ≤ 1048576) ∧ (∀ i, i < n → (M1.rgA rs i).us.length ≤ 1048576) ∧ (∀ i, i < n2 → (M1.mlA ms i).vec.length ≤ 1048576 ∧ (M1.mlA ms i).del.length ≤ 1048576)) ∧ 0 ≤ r ∧ e = .returned (.int .i64 r)) ∨ e = .returned (.int .i64 (-1))) ∧ Below w.heap.size w w' := by
 have hA : Below w.heap.size w (w.alloc (.cells #[.int .i64 now, .slice v n c, .slice v2 n2 c2] 47)) := (Below.refl _ _).alloc (Nat.le_refl _) _
 have P := r3_new w (.int .i64 now) (.slice v n c) (.slice v2 n2 c2) 47
 go_enter Tryz.func17, Tryz.ntmps17
 go_upto_region 1 with fail
 obtain ⟨W0, hW0⟩ : ∃ W, w.alloc (.cells #[.int .i64 now, .slice v n c, .slice v2 n2 c2] 47) = W := ⟨_, rfl⟩
 rw [hW0] at hA P ⊢
 clear hW0
 obtain ⟨d0, d1, d2⟩ := r3_cells P
 have pl := P.lt
 go_wp2_with fail
 refine (szRegionS_any _ _ _ _ _ _ (hr.below hA) h0 hl).mono ?_
 rintro e w1 ⟨⟨r, H1, hr0, hr1, rfl⟩ | rfl, hb1⟩
 ·have B1 := hA.trans (hb1.mono hA.size)
  have Q := RowAt.below P hb1
  have hr2 : ¬ r < 0 := by omega
  clear d0 d1 d2 pl
  obtain ⟨d0, d1, d2⟩ := r3_cells Q
  have pl := Q.lt
  go_wp2_with fail
  refine (szMailS_any _ _ _ _ _ _ (hm.below B1) hr0 (by omega)).mono ?_
  rintro e w2 ⟨⟨q, H2, hq0, hq1, rfl⟩ | rfl, hb2⟩
  ·have B2 := B1.trans (hb2.mono B1.size)
   have hq2 : ¬ q < 0 := by omega
   have H : Hid (((n : Int) ≤ 1048576 ∧ (n2 : Int) ≤ 1048576) ∧ (∀ i, i < n → (M1.rgA rs i).us.length ≤ 1048576) ∧ (∀ i, i < n2 → (M1.mlA ms i).vec.length ≤ 1048576 ∧ (M1.mlA ms i).del.length ≤ 1048576)) := ⟨⟨by have := H1.out.1; omega, by have := H2.out.1; omega⟩, H1.out.2, H2.out.2⟩
   go_wp2_with fail
   go_ret
   exact ⟨Or.inl ⟨q, H, hq0, rfl⟩, B2⟩
  ·have B2 := B1.trans (hb2.mono B1.size)
   go_wp2_with fail
   go_ret
   exact ⟨Or.inr rfl, B2⟩
 ·have B1 := hA.trans (hb1.mono hA.size)
  go_wp2_with fail
  go_ret
  exact ⟨Or.inr rfl, B1⟩

set_option maxHeartbeats 4000000 in
theorem toWorld_any (now : Int) (v : Option Addr) (n c : Nat) (rs : List M1.Rg) (v2 : Option Addr) (n2 c2 : Nat) (ms : List M1.Ml) (w : World) (hr : IsRgs w v n c rs) (hm : IsMls w v2 n2 c2 ms) (hn : n ≤ 1048576) (hn2 : n2 ≤ 1048576) (hus : Hid (∀ i, i < n → (M1.rgA rs i).us.length ≤ 1048576)) (htx : Hid (∀ i, i < n → ∀ j, j < (M1.rgA rs i).us.length → (M1.up (M1.rgA rs i).us j).s.size ≤ maxLen)) (hus2 : Hid (∀ i, i < n2 → (M1.mlA ms i).vec.length ≤ 1048576 ∧ (M1.mlA ms i).del.length ≤ 1048576)) (htx2 : Hid (∀ i, i < n2 → ∀ j, j < (M1.mlA ms i).del.length → (M1.up (M1.mlA ms i).del j).s.size ≤ maxLen)) :
  Calls Tryz.prog 18 #[.agg #[.int .i64 now, .slice v n c, .slice v2 n2 c2]] w fun e w' => ∃ g1 g2, e = .returned (.agg #[.int .i64 now, .slice (some ⟨g1, 0, none⟩) n n, .slice (some ⟨g2, 0, none⟩) n2 n2]) ∧ IsRgs w' (some ⟨g1, 0, none⟩) n n rs ∧ IsMls w' (some ⟨g2, 0, none⟩) n2 n2 ms ∧ Below w.heap.size w w' := by
 have hA : Below w.heap.size w ((w.alloc (.cells #[.int .i64 now, .slice v n c, .slice v2 n2 c2] 47)).alloc (.cells #[.int .i64 0, .slice none 0 0, .slice none 0 0] 27)) := ((Below.refl _ _).alloc (Nat.le_refl _) _).alloc (by simp) _
 have P := (r3_new w (.int .i64 now) (.slice v n c) (.slice v2 n2 c2) 47).alloc (.cells #[.int .i64 0, .slice none 0 0, .slice none 0 0] 27)
 have Z := r3_new (w.alloc (.cells #[.int .i64 now, .slice v n c, .slice v2 n2 c2] 47)) (.int .i64 0) (.slice none 0 0) (.slice none 0 0) 27
 rw [show (w.alloc (.cells #[.int .i64 now, .slice v n c, .slice v2 n2 c2] 47)).heap.size = w.heap.size + 1 by simp] at Z
 go_enter Tryz.func18, Tryz.ntmps18
 go_upto_region 1 with fail
 obtain ⟨W0, hW0⟩ : ∃ W, (w.alloc (.cells #[.int .i64 now, .slice v n c, .slice v2 n2 c2] 47)).alloc (.cells #[.int .i64 0, .slice none 0 0, .slice none 0 0] 27) = W := ⟨_, rfl⟩
 rw [hW0] at hA P Z ⊢
 clear hW0
 obtain ⟨z, hz⟩ : ∃ z, Hid (w.heap.size + 1 = z) := ⟨_, rfl⟩
 obtain ⟨p, hp⟩ : ∃ p, Hid (w.heap.size = p) := ⟨_, rfl⟩
 have hzw : w.heap.size ≤ z := by have := hz.out; omega
 have hpz : ¬ z = p := by have := hz.out; have := hp.out; omega
 rw [hz.out] at Z ⊢
 rw [hp.out] at P ⊢
 have zl := Z.lt
 have pl0 := P.lt
 have hA1 : Below W0.heap.size W0 (W0.alloc (.cells #[.int .i64 0, .slice none 0 0, .slice none 0 0] 27)) := (Below.refl _ _).alloc (Nat.le_refl _) _
 have O1 := r3_new W0 (.int .i64 0) (.slice none 0 0) (.slice none 0 0) 27
 go_upto_region 2 with fail
 obtain ⟨W1, hW1⟩ : ∃ W, W0.alloc (.cells #[.int .i64 0, .slice none 0 0, .slice none 0 0] 27) = W := ⟨_, rfl⟩
 rw [hW1] at hA1 O1 ⊢
 clear hW1
 obtain ⟨o, ho⟩ : ∃ o, Hid (W0.heap.size = o) := ⟨_, rfl⟩
 have how : w.heap.size ≤ o := by have := ho.out; have := hA.size; omega
 have hop : ¬ o = p := by have := ho.out; omega
 have hoz : ¬ o = z := by have := ho.out; omega
 rw [ho.out] at O1 ⊢
 have B1 := hA.trans (hA1.mono hA.size)
 have P1 := RowAt.below P hA1
 have Z1 := RowAt.below Z hA1
 clear P Z
 -- the number
 obtain ⟨d0, d1, d2⟩ := r3_cells P1
 have pl := P1.lt
 obtain ⟨e0, e1, e2⟩ := r3_cells O1
 obtain ⟨f0, f1, f2⟩ := r3_free O1
 have ol := O1.lt
 have O2 := r3_set0 O1 (.int .i64 now)
 have P2 : R3 (W1.setCell ⟨o, 0, none⟩ (.int .i64 now)) p (.int .i64 now) (.slice v n c) (.slice v2 n2 c2) := RowAt.far (p := ⟨o, 0, none⟩) P1 hop _
 have Z2 : R3 (W1.setCell ⟨o, 0, none⟩ (.int .i64 now)) z (.int .i64 0) (.slice none 0 0) (.slice none 0 0) := RowAt.far (p := ⟨o, 0, none⟩) Z1 hoz _
 have B2 : Below w.heap.size w (W1.setCell ⟨o, 0, none⟩ (.int .i64 now)) := B1.setCell (p := ⟨o, 0, none⟩) how _
 go_upto_region 3 with fail
 obtain ⟨W2, hW2⟩ : ∃ W, W1.setCell ⟨o, 0, none⟩ (.int .i64 now) = W := ⟨_, rfl⟩
 rw [hW2] at O2 P2 Z2 B2 ⊢
 clear hW2 d0 d1 d2 pl e0 e1 e2 f0 f1 f2 ol P1 Z1 O1
 obtain ⟨d0, d1, d2⟩ := r3_cells P2
 have pl := P2.lt
 have ol2 := O2.lt
 go_wp2_with fail
 refine (toRegionS_any _ _ _ rs _ (hr.below B2) hn hus htx).mono ?_
 rintro e w3 ⟨g1, rfl, hg1, _, HS1, hb3⟩
 have B3 := B2.trans (hb3.mono B2.size)
 have P3 := RowAt.below P2 hb3
 have Z3 := RowAt.below Z2 hb3
 have O3 := RowAt.below O2 hb3
 clear d0 d1 d2 pl P2 Z2 O2
 obtain ⟨e0, e1, e2⟩ := r3_cells O3
 obtain ⟨f0, f1, f2⟩ := r3_free O3
 have ol := O3.lt
 have O4 := r3_set1 O3 (.slice (some ⟨g1, 0, none⟩) n n)
 have P4 : R3 (w3.setCell ⟨o, 1, none⟩ (.slice (some ⟨g1, 0, none⟩) n n)) p (.int .i64 now) (.slice v n c) (.slice v2 n2 c2) := RowAt.far (p := ⟨o, 1, none⟩) P3 hop _
 have Z4 : R3 (w3.setCell ⟨o, 1, none⟩ (.slice (some ⟨g1, 0, none⟩) n n)) z (.int .i64 0) (.slice none 0 0) (.slice none 0 0) := RowAt.far (p := ⟨o, 1, none⟩) Z3 hoz _
 have B4 : Below w.heap.size w (w3.setCell ⟨o, 1, none⟩ (.slice (some ⟨g1, 0, none⟩) n n)) := B3.setCell (p := ⟨o, 1, none⟩) how _
 have S4 : Same W2.heap.size w3 (w3.setCell ⟨o, 1, none⟩ (.slice (some ⟨g1, 0, none⟩) n n)) := (Same.refl _ _).set (p := ⟨o, 1, none⟩) ol2 _
 go_upto_region 4 with fail
 obtain ⟨W4, hW4⟩ : ∃ W, (w3.setCell ⟨o, 1, none⟩ (.slice (some ⟨g1, 0, none⟩) n n)) = W := ⟨_, rfl⟩
 rw [hW4] at O4 P4 Z4 B4 S4 ⊢
 clear hW4 e0 e1 e2 f0 f1 f2 ol P3 Z3 O3
 obtain ⟨d0, d1, d2⟩ := r3_cells P4
 have pl := P4.lt
 have ol4 := O4.lt
 have zl4 := Z4.lt
 go_wp2_with fail
 refine (toMailS_any _ _ _ ms _ (hm.below B4) hn2 hus2 htx2).mono ?_
 rintro e w5 ⟨g2, rfl, hg2, _, HS2, hb5⟩
 have B5 := B4.trans (hb5.mono B4.size)
 have Z5 := RowAt.below Z4 hb5
 have O5 := RowAt.below O4 hb5
 clear d0 d1 d2 pl P4 Z4 O4
 obtain ⟨e0, e1, e2⟩ := r3_cells O5
 obtain ⟨f0, f1, f2⟩ := r3_free O5
 have ol := O5.lt
 have O6 := r3_set2 O5 (.slice (some ⟨g2, 0, none⟩) n2 n2)
 have Z6 : R3 (w5.setCell ⟨o, 2, none⟩ (.slice (some ⟨g2, 0, none⟩) n2 n2)) z (.int .i64 0) (.slice none 0 0) (.slice none 0 0) := RowAt.far (p := ⟨o, 2, none⟩) Z5 hoz _
 have B6 : Below w.heap.size w (w5.setCell ⟨o, 2, none⟩ (.slice (some ⟨g2, 0, none⟩) n2 n2)) := B5.setCell (p := ⟨o, 2, none⟩) how _
 have S6 : Same W2.heap.size w3 (w5.setCell ⟨o, 2, none⟩ (.slice (some ⟨g2, 0, none⟩) n2 n2)) := (S4.trans (Same.below hb5)).set (p := ⟨o, 2, none⟩) ol2 _
 have T6 : Same W4.heap.size w5 (w5.setCell ⟨o, 2, none⟩ (.slice (some ⟨g2, 0, none⟩) n2 n2)) := (Same.refl _ _).set (p := ⟨o, 2, none⟩) ol4 _
 go_upto_region 5 with fail
 obtain ⟨W6, hW6⟩ : ∃ W, (w5.setCell ⟨o, 2, none⟩ (.slice (some ⟨g2, 0, none⟩) n2 n2)) = W := ⟨_, rfl⟩
 rw [hW6] at O6 Z6 B6 S6 T6 ⊢
 clear hW6 e0 e1 e2 f0 f1 f2 ol Z5 O5
 obtain ⟨d0, d1, d2⟩ := r3_cells O6
 have pl := O6.lt
 obtain ⟨e0, e1, e2⟩ := r3_cells Z6
 obtain ⟨f0, f1, f2⟩ := r3_free Z6
 have zl6 := Z6.lt
 have hs2 := B2.size
 have hzl2 : z < W2.heap.size := by have := ho.out; omega
 have ZZ := r3_set2 (r3_set1 (r3_set0 Z6 (.int .i64 now)) (.slice (some ⟨g1, 0, none⟩) n n)) (.slice (some ⟨g2, 0, none⟩) n2 n2)
 have BZ : Below w.heap.size w (((W6.setCell ⟨z, 0, none⟩ (.int .i64 now)).setCell ⟨z, 1, none⟩ (.slice (some ⟨g1, 0, none⟩) n n)).setCell ⟨z, 2, none⟩ (.slice (some ⟨g2, 0, none⟩) n2 n2)) := ((B6.setCell (p := ⟨z, 0, none⟩) hzw _).setCell (p := ⟨z, 1, none⟩) hzw _).setCell (p := ⟨z, 2, none⟩) hzw _
 have SZ : Same W2.heap.size w3 (((W6.setCell ⟨z, 0, none⟩ (.int .i64 now)).setCell ⟨z, 1, none⟩ (.slice (some ⟨g1, 0, none⟩) n n)).setCell ⟨z, 2, none⟩ (.slice (some ⟨g2, 0, none⟩) n2 n2)) := ((S6.set (p := ⟨z, 0, none⟩) hzl2 _).set (p := ⟨z, 1, none⟩) hzl2 _).set (p := ⟨z, 2, none⟩) hzl2 _
 have TZ : Same W4.heap.size w5 (((W6.setCell ⟨z, 0, none⟩ (.int .i64 now)).setCell ⟨z, 1, none⟩ (.slice (some ⟨g1, 0, none⟩) n n)).setCell ⟨z, 2, none⟩ (.slice (some ⟨g2, 0, none⟩) n2 n2)) := ((T6.set (p := ⟨z, 0, none⟩) zl4 _).set (p := ⟨z, 1, none⟩) zl4 _).set (p := ⟨z, 2, none⟩) zl4 _
 go_wp2_with fail
 obtain ⟨Wz, hWz⟩ : ∃ W, (((W6.setCell ⟨z, 0, none⟩ (.int .i64 now)).setCell ⟨z, 1, none⟩ (.slice (some ⟨g1, 0, none⟩) n n)).setCell ⟨z, 2, none⟩ (.slice (some ⟨g2, 0, none⟩) n2 n2)) = W := ⟨_, rfl⟩
 rw [hWz] at ZZ BZ SZ TZ ⊢
 clear hWz d0 d1 d2 pl e0 e1 e2 f0 f1 f2
 obtain ⟨v0, v1, v2'⟩ := r3_cells ZZ
 refine bodyPost_ret (v := .agg #[.int .i64 now, .slice (some ⟨g1, 0, none⟩) n n, .slice (some ⟨g2, 0, none⟩) n2 n2]) (by simp [results, Tryz.results18, go_sem, v0, v1, v2']) rfl ?_
 exact ⟨g1, g2, rfl, HS1.out _ SZ, HS2.out _ TZ, BZ⟩

set_option maxHeartbeats 4000000 in
theorem eqWorld_self (now : Int) (v v' : Option Addr) (n c c' : Nat) (rs : List M1.Rg) (v2 v2' : Option Addr) (n2 c2 c2' : Nat) (ms : List M1.Ml) (w : World) (hr : IsRgs w v n c rs) (hm : IsMls w v2 n2 c2 ms) (hr' : IsRgs w v' n c' rs) (hm' : IsMls w v2' n2 c2' ms) :
  Calls Tryz.prog 19 #[.agg #[.int .i64 now, .slice v n c, .slice v2 n2 c2], .agg #[.int .i64 now, .slice v' n c', .slice v2' n2 c2']] w fun e w' => e = .returned (.bool true) ∧ Below w.heap.size w w' := by
 have hA : Below w.heap.size w ((w.alloc (.cells #[.int .i64 now, .slice v n c, .slice v2 n2 c2] 27)).alloc (.cells #[.int .i64 now, .slice v' n c', .slice v2' n2 c2'] 27)) := ((Below.refl _ _).alloc (Nat.le_refl _) _).alloc (by simp) _
 have P := (r3_new w (.int .i64 now) (.slice v n c) (.slice v2 n2 c2) 27).alloc (.cells #[.int .i64 now, .slice v' n c', .slice v2' n2 c2'] 27)
 have P2 := r3_new (w.alloc (.cells #[.int .i64 now, .slice v n c, .slice v2 n2 c2] 27)) (.int .i64 now) (.slice v' n c') (.slice v2' n2 c2') 27
 rw [show (w.alloc (.cells #[.int .i64 now, .slice v n c, .slice v2 n2 c2] 27)).heap.size = w.heap.size + 1 by simp] at P2
 have e1 : (now != now) = false := by simp
 go_enter Tryz.func19, Tryz.ntmps19
 go_upto_region 1 with fail
 obtain ⟨W0, hW0⟩ : ∃ W, (w.alloc (.cells #[.int .i64 now, .slice v n c, .slice v2 n2 c2] 27)).alloc (.cells #[.int .i64 now, .slice v' n c', .slice v2' n2 c2'] 27) = W := ⟨_, rfl⟩
 rw [hW0] at hA P P2 ⊢
 clear hW0
 obtain ⟨d0, d1, d2⟩ := r3_cells P
 have pl := P.lt
 obtain ⟨k0, k1, k2⟩ := r3_cells P2
 have kl := P2.lt
 go_wp2_with fail
 refine (eqRegionS_self _ _ _ _ _ rs _ (hr.below hA) (hr'.below hA)).mono ?_
 rintro e w1 ⟨rfl, hb1⟩
 have B1 := hA.trans (hb1.mono hA.size)
 have Q := RowAt.below P hb1
 have Q2 := RowAt.below P2 hb1
 clear d0 d1 d2 k0 k1 k2 pl kl
 obtain ⟨d0, d1, d2⟩ := r3_cells Q
 have pl := Q.lt
 obtain ⟨k0, k1, k2⟩ := r3_cells Q2
 have kl := Q2.lt
 go_wp2_with fail
 refine (eqMailS_self _ _ _ _ _ ms _ (hm.below B1) (hm'.below B1)).mono ?_
 rintro e w2 ⟨rfl, hb2⟩
 have B2 := B1.trans (hb2.mono B1.size)
 go_wp2_with fail
 go_ret
 exact ⟨rfl, B2⟩

end Go.Proofs.YtgcinolbkllkkaaGreat
