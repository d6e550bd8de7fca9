/-
  Texts of one proof, joined: Set2.
-/
import Derived.Test.YtgcinolbkllkkaaGreatZXWorldOk04
import Derived.Test.YtgcinolbkllkkaaGreatZXWorldOk06
namespace Go.Proofs.YtgcinolbkllkkaaGreat
open Go.ChangeShapes Go.WideShapes Go.ChangeAt Go.RowKit
set_option linter.unusedSimpArgs false
theorem eqDot_self (a b : Int) (w : World) :
  Calls Tryz.prog 135 #[.agg #[.int .i64 a, .int .i64 b], .agg #[.int .i64 a, .int .i64 b]] w fun e w' => e = .returned (.bool true) ∧ Below w.heap.size w w' :=
 (eqDot_any a b a b w).mono fun e w' ⟨he, hb⟩ => ⟨by rw [he]; simp [M1.eqd], hb⟩

theorem eqSpan_self (a b c d : Int) (s : ByteArray) (w : World) :
  Calls Tryz.prog 149 #[.agg #[.int .i64 a, .int .i64 b, .string s, .int .i64 c, .int .i64 d], .agg #[.int .i64 a, .int .i64 b, .string s, .int .i64 c, .int .i64 d]] w fun e w' => e = .returned (.bool true) ∧ Below w.heap.size w w' := by
 go_enter Tryz.func149, Tryz.ntmps149
 go_wp2
 go_ret
 refine ⟨rfl, ?_⟩
 repeat (first | (with_reducible exact Below.refl _ _) | ((with_reducible refine Below.setCell ?_ ?_ _); rotate_left; (focus (first | omega | (simp; done) | (simp; omega)))) | ((with_reducible refine Below.alloc ?_ ?_ _); rotate_left; (focus (first | omega | (simp; done) | (simp; omega)))) | (with_reducible refine Below.drew ?_))

set_option maxHeartbeats 4000000 in
theorem eqUpdate_self (dr dn sw sc sr k tr id pa st en lv : Int) (s : ByteArray) (w : World) :
  Calls Tryz.prog 134 #[.agg #[.int .i64 dr, .int .i64 dn, .int .i64 sw, .int .i64 sc, .int .i64 sr, .int .i64 k, .int .i64 tr, .int .i64 id, .int .i64 pa, .string s, .int .i64 st, .int .i64 en, .int .i64 lv], .agg #[.int .i64 dr, .int .i64 dn, .int .i64 sw, .int .i64 sc, .int .i64 sr, .int .i64 k, .int .i64 tr, .int .i64 id, .int .i64 pa, .string s, .int .i64 st, .int .i64 en, .int .i64 lv]] w fun e w' => e = .returned (.bool true) ∧ Below w.heap.size w w' := by
 go_enter Tryz.func134, Tryz.ntmps134
 go_wp2_with fail
 refine (eqDot_self _ _ _).mono ?_
 rintro e w1 ⟨rfl, hb1⟩
 have hB1 := hb1
 clear hb1
 obtain ⟨hc1, hf1⟩ := bcell hB1
 have hz1 := hB1.size
 (try simp [Nat.succ_le_iff] at hz1)
 have hz1_0 : w.heap.size < w1.heap.size := by omega
 have hz1_1 : w.heap.size + 1 < w1.heap.size := by omega
 go_wp2_with fail
 refine (eqStamp_same _ _ _ _).mono ?_
 rintro e w2 ⟨rfl, hb2⟩
 have hB2 := hB1.trans (hb2.mono hB1.size)
 obtain ⟨hc2, hf2⟩ := bcell hB2
 have hz2 := hB2.size
 (try simp [Nat.succ_le_iff] at hz2)
 have hz2_0 : w.heap.size < w2.heap.size := by omega
 have hz2_1 : w.heap.size + 1 < w2.heap.size := by omega
 clear hb2 hB1 hc1 hf1 hz1 hz1_0 hz1_1
 go_wp2_with fail
 refine (eqSpan_self _ _ _ _ _ _).mono ?_
 rintro e w3 ⟨rfl, hb3⟩
 have hB3 := hB2.trans (hb3.mono hB2.size)
 obtain ⟨hc3, hf3⟩ := bcell hB3
 have hz3 := hB3.size
 (try simp [Nat.succ_le_iff] at hz3)
 have hz3_0 : w.heap.size < w3.heap.size := by omega
 have hz3_1 : w.heap.size + 1 < w3.heap.size := by omega
 clear hb3 hB2 hc2 hf2 hz2 hz2_0 hz2_1
 go_wp2_with fail
 go_ret
 refine ⟨rfl, ?_⟩
 repeat (first | (with_reducible exact Below.refl _ _) | ((with_reducible refine Below.setCell ?_ ?_ _); rotate_left; (focus (first | omega | (simp; done) | (simp; omega)))) | ((with_reducible refine Below.alloc ?_ ?_ _); rotate_left; (focus (first | omega | (simp; done) | (simp; omega)))) | (with_reducible refine Below.drew ?_) | ((with_reducible refine Below.trans ?_ (Below.mono hB3 ?_)); rotate_left; (focus (first | omega | (simp; done) | (simp; omega)))))

set_option maxHeartbeats 4000000 in
theorem eqUpdateS_self (av bv : Option Addr) (n cn cm : Nat) (us : List M1.Upd) (w : World) (h1 : IsUpds w av n cn us) (h2 : IsUpds w bv n cm us) :
  Calls Tryz.prog 109 #[.slice av n cn, .slice bv n cm] w fun e w' => e = .returned (.bool true) ∧ Below w.heap.size w w' := by
 have hm1 := h1.hcap
 have hm2 := h1.hmost
 have hm3 := h2.hcap
 have hm4 := h2.hmost
 unfold maxLen at hm2 hm4
 have hnb : ((n : Int) != (n : Int)) = false := by simp
 go_enter Tryz.func109, Tryz.ntmps109
 go_wp2
 go_loopw [5] (fun i wr => ∃ k : Nat, k ≤ n ∧ i = .int .i64 k ∧ Below w.heap.size w wr) (fun i _ => n - (intOf i).toNat)
 case atStart => exact ⟨0, Nat.zero_le _, rfl, Below.refl _ _⟩
 case round =>
  obtain ⟨k, hk, rfl, hB⟩ := hrel
  by_cases hlt : k < n
  ·have g1 := h1.below hB
   have g2 := h2.below hB
   rcases g1.hlies with h0 | ⟨b, off, rfl, hb, hc⟩
   ·omega
   rcases g2.hlies with h0 | ⟨b2, off2, rfl, hb2, hc2⟩
   ·omega
   obtain ⟨c0, c1, c2, c3, c4, c5, c6, c7, c8, c9, c10, c11, c12⟩ := hc k hlt
   obtain ⟨d0, d1, d2, d3, d4, d5, d6, d7, d8, d9, d10, d11, d12⟩ := hc2 k hlt
   clear hc hc2 g1 g2
   have i0 : (0 : Int) ≤ (k : Int) := by omega
   have i1 : (k : Int) < (n : Int) := by omega
   go_wp2_with fail
   go_region_held3 (fun w' => Kp wr w')
    (first | exact kp_zero _ | exact kp_drew (by assumption) | exact kp_step (by assumption) (by assumption))
    (first
     | (go_at_call 134; refine (eqUpdate_self _ _ _ _ _ _ _ _ _ _ _ _ _ _).mono ?_; rintro e w' ⟨rfl, hb⟩))
   rename_i hK
   obtain ⟨hK1, hK2⟩ := hK
   have hB' := hB.trans (hK1.mono hB.size)
   go_wp2_with fail
   exact ⟨⟨k + 1, by omega, by go_num, hB'⟩, by simp [intOf]; omega⟩
  ·go_wp2_with fail
   go_ret
   exact ⟨rfl, hB⟩

set_option maxHeartbeats 4000000 in
theorem szUpdateS_any (av : Option Addr) (n cn : Nat) (us : List M1.Upd) (left : Int) (w : World) (h1 : IsUpds w av n cn us) (h0 : 0 ≤ left) (hl : left ≤ 1048576) :
  Calls Tryz.prog 103 #[.slice av n cn, .int .i64 left] w fun e w' => ((∃ r, (n : Int) ≤ left ∧ 0 ≤ r ∧ r ≤ left ∧ e = .returned (.int .i64 r)) ∨ e = .returned (.int .i64 (-1))) ∧ Below w.heap.size w w' := by
 have hm1 := h1.hcap
 have hm2 := h1.hmost
 unfold maxLen at hm2
 by_cases hn : (n : Int) ≤ left
 ·go_enter Tryz.func103, Tryz.ntmps103
  go_wp2_with fail
  go_loopw [1, 5] (fun r i wr => ∃ k : Nat, k ≤ n ∧ i = .int .i64 k ∧ Below w.heap.size w wr ∧ ∃ q : Int, 0 ≤ q ∧ q ≤ left ∧ r = .int .i64 q) (fun _ i _ => n - (intOf i).toNat)
  case atStart => exact ⟨0, Nat.zero_le _, rfl, Below.refl _ _, left - n, by omega, by omega, rfl⟩
  case round =>
   obtain ⟨k, hk, rfl, hB, q, hq0, hq1, rfl⟩ := hrel
   by_cases hlt : k < n
   ·have g1 := h1.below hB
    rcases g1.hlies with h0 | ⟨b, off, rfl, hb, hc⟩
    ·omega
    obtain ⟨c0, c1, c2, c3, c4, c5, c6, c7, c8, c9, c10, c11, c12⟩ := hc k hlt
    have hs := h1.htxt k hlt
    clear hc g1
    have i0 : (0 : Int) ≤ (k : Int) := by omega
    have i1 : (k : Int) < (n : Int) := by omega
    by_cases hf : ((M1.up us k).s.size : Int) ≤ q
    ·go_wp2_with fail
     refine (szUpdate_yes _ _ _ _ _ _ _ _ _ _ _ _ _ _ _ hq0 (by omega) hs hf).mono ?_
     rintro e w2 ⟨rfl, hb2⟩
     have hB2 := hB.trans (hb2.mono hB.size)
     go_wp2_with fail
     exact ⟨⟨k + 1, by omega, by go_num, hB2, q - (M1.up us k).s.size, by omega, by omega, rfl⟩, by simp [intOf]; omega⟩
    ·go_wp2_with fail
     refine (szUpdate_no _ _ _ _ _ _ _ _ _ _ _ _ _ _ _ hq0 (by omega) hs (by omega)).mono ?_
     rintro e w2 ⟨rfl, hb2⟩
     have hB2 := hB.trans (hb2.mono hB.size)
     go_wp2_with fail
     go_ret
     exact ⟨Or.inr rfl, hB2⟩
   ·go_wp2_with fail
    go_ret
    exact ⟨Or.inl ⟨q, hn, hq0, hq1, rfl⟩, hB⟩
 ·go_enter Tryz.func103, Tryz.ntmps103
  go_wp2_with fail
  go_ret
  exact ⟨Or.inr rfl, Below.refl _ _⟩

end Go.Proofs.YtgcinolbkllkkaaGreat
