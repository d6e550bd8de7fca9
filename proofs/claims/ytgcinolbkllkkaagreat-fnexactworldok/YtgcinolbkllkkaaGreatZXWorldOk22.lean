/-
  Texts of one proof, joined: Upd1.
-/
import Derived.Test.YtgcinolbkllkkaaGreatZXWorldOk02
import Derived.Test.YtgcinolbkllkkaaGreatZXWorldOk05
import Derived.Test.YtgcinolbkllkkaaGreatZXWorldOk00
namespace Go.Proofs.YtgcinolbkllkkaaGreat
open Go.ChangeShapes Go.WideShapes Go.ChangeAt Go.RowKit
set_option linter.unusedSimpArgs false
set_option maxHeartbeats 8000000 in
set_option maxRecDepth 100000 in
theorem updateOk_spec (dr dn sw sc sr k tr id pa st en lv : Int) (s : ByteArray) (w : World) (hs : s.size ≤ maxLen) :
  Calls Tryz.prog 91 #[.agg #[.int .i64 dr, .int .i64 dn, .int .i64 sw, .int .i64 sc, .int .i64 sr, .int .i64 k, .int .i64 tr, .int .i64 id, .int .i64 pa, .string s, .int .i64 st, .int .i64 en, .int .i64 lv]] w fun e w' => e = .returned (.bool (M1.updB dr dn sw sc sr k tr id pa s st en lv)) ∧ Below w.heap.size w w' := by
 by_cases h1 : M1.dotOk dr dn = true
 ·by_cases h2 : M1.stOk sw sc sr = true
  ·by_cases h3 : sr = dr
   ·by_cases h4 : M1.inB tr 1 1000 = true
    ·have HU : Hid (M1.updB dr dn sw sc sr k tr id pa s st en lv = M1.kindB k id pa s st en lv) := (by unfold M1.updB M1.headB; rw [h1, h2, h4, decide_eq_true h3]; rfl : M1.updB dr dn sw sc sr k tr id pa s st en lv = M1.kindB k id pa s st en lv)
     rw [HU.out]
     clear HU
     subst h3
     go_enter Tryz.func91, Tryz.ntmps91
     go_wp2_with fail
     refine (l1Dot_any _ _ _).mono ?_
     rw [h1]
     rintro e w1 ⟨rfl, hb1⟩
     obtain ⟨hc1, hf1⟩ := bcell hb1
     have hs1 := hb1.size
     simp at hs1
     have hs1a : w.heap.size < w1.heap.size := by omega
     have hs1b : w.heap.size + 1 < w1.heap.size := by omega
     go_wp2_with fail
     refine (stampOk_spec _ _ _ _).mono ?_
     rw [h2]
     rintro e w2 ⟨rfl, hb2⟩
     have hB2 := hb1.trans (hb2.mono hb1.size)
     clear hc1 hf1
     obtain ⟨hc2, hf2⟩ := bcell hB2
     have hs2 := hB2.size
     simp at hs2
     have hs2a : w.heap.size < w2.heap.size := by omega
     have hs2b : w.heap.size + 1 < w2.heap.size := by omega
     go_wp2_with fail
     refine (l1In_any _ _ _ _).mono ?_
     rw [h4]
     rintro e w3 ⟨rfl, rfl⟩
     clear h1 h2 h4 hb1 hb2 hs1 hs1a hs1b
     by_cases k1 : k = 1
     ·subst k1
      go_wp2_with fail
      refine (spanOk_spec _ _ _ _ _ _ hs).mono ?_
      rintro e w4 ⟨rfl, hb4⟩
      have hB4 := hB2.trans (hb4.mono hB2.size)
      clear hc2 hf2
      obtain ⟨hc4, hf4⟩ := bcell hB4
      have hs4 := hB4.size
      simp at hs4
      have hs4a : w.heap.size < w4.heap.size := by omega
      go_wp2_with fail
      all_goals (go_ret)
      all_goals (refine ⟨?_, ?_⟩)
      all_goals (first | ((repeat (first | (with_reducible exact Below.refl _ _) | ((with_reducible refine Below.setCell ?_ ?_ _); rotate_left; (focus (first | omega | (simp; done) | (simp; omega)))) | ((with_reducible refine Below.alloc ?_ ?_ _); rotate_left; (focus (first | omega | (simp; done) | (simp; omega)))) | (with_reducible refine Below.drew ?_) | ((with_reducible refine Below.trans ?_ (Below.mono hB4 ?_)); rotate_left; (focus (first | omega | (simp; done) | (simp; omega)))))); done) | (simp [M1.kindB, M1.zeroB, *]; done) | skip)
     ·have b1 : (k == 1) = false := by simp [k1]
      by_cases k2 : k = 2
      ·subst k2
       go_wp2_with fail
       all_goals (go_ret)
       all_goals (refine ⟨?_, ?_⟩)
       all_goals (first | ((repeat (first | (with_reducible exact Below.refl _ _) | ((with_reducible refine Below.setCell ?_ ?_ _); rotate_left; (focus (first | omega | (simp; done) | (simp; omega)))) | ((with_reducible refine Below.alloc ?_ ?_ _); rotate_left; (focus (first | omega | (simp; done) | (simp; omega)))) | (with_reducible refine Below.drew ?_) | ((with_reducible refine Below.trans ?_ (Below.mono hB2 ?_)); rotate_left; (focus (first | omega | (simp; done) | (simp; omega)))))); done) | (simp [M1.kindB, M1.zeroB, *]; done) | skip)
      ·have b2 : (k == 2) = false := by simp [k2]
       by_cases k3 : k = 3
       ·subst k3
        go_wp2_with ((go_at_call 27; refine (l1In_any _ _ _ _).mono ?_; rintro e w' ⟨rfl, rfl⟩))
        all_goals (go_ret)
        all_goals (refine ⟨?_, ?_⟩)
        all_goals (first | ((repeat (first | (with_reducible exact Below.refl _ _) | ((with_reducible refine Below.setCell ?_ ?_ _); rotate_left; (focus (first | omega | (simp; done) | (simp; omega)))) | ((with_reducible refine Below.alloc ?_ ?_ _); rotate_left; (focus (first | omega | (simp; done) | (simp; omega)))) | (with_reducible refine Below.drew ?_) | ((with_reducible refine Below.trans ?_ (Below.mono hB2 ?_)); rotate_left; (focus (first | omega | (simp; done) | (simp; omega)))))); done) | (simp [M1.kindB, M1.zeroB, *]; done) | skip)
       ·have b3 : (k == 3) = false := by simp [k3]
        have HK : Hid (M1.kindB k id pa s st en lv = false) := (by unfold M1.kindB; rw [if_neg k1, if_neg k2, if_neg k3] : M1.kindB k id pa s st en lv = false)
        clear k1 k2 k3
        go_wp2_with fail
        go_ret
        refine ⟨by rw [HK.out]; rfl, ?_⟩
        repeat (first | (with_reducible exact Below.refl _ _) | ((with_reducible refine Below.setCell ?_ ?_ _); rotate_left; (focus (first | omega | (simp; done) | (simp; omega)))) | ((with_reducible refine Below.alloc ?_ ?_ _); rotate_left; (focus (first | omega | (simp; done) | (simp; omega)))) | (with_reducible refine Below.drew ?_) | ((with_reducible refine Below.trans ?_ (Below.mono hB2 ?_)); rotate_left; (focus (first | omega | (simp; done) | (simp; omega)))))
    ·have HU : Hid (M1.updB dr dn sw sc sr k tr id pa s st en lv = false) := (by unfold M1.updB M1.headB; rw [Bool.eq_false_iff.2 h4]; simp : M1.updB dr dn sw sc sr k tr id pa s st en lv = false)
     replace h4 : M1.inB tr 1 1000 = false := by simpa using h4
     rw [HU.out]
     subst h3
     go_enter Tryz.func91, Tryz.ntmps91
     go_wp2_with fail
     refine (l1Dot_any _ _ _).mono ?_
     rw [h1]
     rintro e w1 ⟨rfl, hb1⟩
     obtain ⟨hc1, hf1⟩ := bcell hb1
     have hs1 := hb1.size
     simp at hs1
     have hs1a : w.heap.size < w1.heap.size := by omega
     have hs1b : w.heap.size + 1 < w1.heap.size := by omega
     go_wp2_with fail
     refine (stampOk_spec _ _ _ _).mono ?_
     rw [h2]
     rintro e w2 ⟨rfl, hb2⟩
     have hB2 := hb1.trans (hb2.mono hb1.size)
     clear hc1 hf1
     obtain ⟨hc2, hf2⟩ := bcell hB2
     have hs2 := hB2.size
     simp at hs2
     have hs2a : w.heap.size < w2.heap.size := by omega
     have hs2b : w.heap.size + 1 < w2.heap.size := by omega
     go_wp2_with fail
     refine (l1In_any _ _ _ _).mono ?_
     rw [h4]
     rintro e w3 ⟨rfl, rfl⟩
     go_wp2_with fail
     go_ret
     refine ⟨rfl, ?_⟩
     repeat (first | (with_reducible exact Below.refl _ _) | ((with_reducible refine Below.setCell ?_ ?_ _); rotate_left; (focus (first | omega | (simp; done) | (simp; omega)))) | ((with_reducible refine Below.alloc ?_ ?_ _); rotate_left; (focus (first | omega | (simp; done) | (simp; omega)))) | (with_reducible refine Below.drew ?_) | ((with_reducible refine Below.trans ?_ (Below.mono hB2 ?_)); rotate_left; (focus (first | omega | (simp; done) | (simp; omega)))))
   ·have HU : Hid (M1.updB dr dn sw sc sr k tr id pa s st en lv = false) := (by unfold M1.updB M1.headB; rw [decide_eq_false h3]; simp : M1.updB dr dn sw sc sr k tr id pa s st en lv = false)
    rw [HU.out]
    have b3 : (sr != dr) = true := by simp [h3]
    clear h3
    go_enter Tryz.func91, Tryz.ntmps91
    go_wp2_with fail
    refine (l1Dot_any _ _ _).mono ?_
    rw [h1]
    rintro e w1 ⟨rfl, hb1⟩
    obtain ⟨hc1, hf1⟩ := bcell hb1
    have hs1 := hb1.size
    simp at hs1
    have hs1a : w.heap.size < w1.heap.size := by omega
    have hs1b : w.heap.size + 1 < w1.heap.size := by omega
    go_wp2_with fail
    refine (stampOk_spec _ _ _ _).mono ?_
    rw [h2]
    rintro e w2 ⟨rfl, hb2⟩
    have hB2 := hb1.trans (hb2.mono hb1.size)
    clear hc1 hf1
    obtain ⟨hc2, hf2⟩ := bcell hB2
    have hs2 := hB2.size
    simp at hs2
    have hs2a : w.heap.size < w2.heap.size := by omega
    have hs2b : w.heap.size + 1 < w2.heap.size := by omega
    go_wp2_with fail
    go_ret
    refine ⟨rfl, ?_⟩
    repeat (first | (with_reducible exact Below.refl _ _) | ((with_reducible refine Below.setCell ?_ ?_ _); rotate_left; (focus (first | omega | (simp; done) | (simp; omega)))) | ((with_reducible refine Below.alloc ?_ ?_ _); rotate_left; (focus (first | omega | (simp; done) | (simp; omega)))) | (with_reducible refine Below.drew ?_) | ((with_reducible refine Below.trans ?_ (Below.mono hB2 ?_)); rotate_left; (focus (first | omega | (simp; done) | (simp; omega)))))
  ·have HU : Hid (M1.updB dr dn sw sc sr k tr id pa s st en lv = false) := (by unfold M1.updB M1.headB; rw [Bool.eq_false_iff.2 h2]; simp : M1.updB dr dn sw sc sr k tr id pa s st en lv = false)
   replace h2 : M1.stOk sw sc sr = false := by simpa using h2
   rw [HU.out]
   go_enter Tryz.func91, Tryz.ntmps91
   go_wp2_with fail
   refine (l1Dot_any _ _ _).mono ?_
   rw [h1]
   rintro e w1 ⟨rfl, hb1⟩
   obtain ⟨hc1, hf1⟩ := bcell hb1
   have hs1 := hb1.size
   simp at hs1
   have hs1a : w.heap.size < w1.heap.size := by omega
   have hs1b : w.heap.size + 1 < w1.heap.size := by omega
   go_wp2_with fail
   refine (stampOk_spec _ _ _ _).mono ?_
   rw [h2]
   rintro e w2 ⟨rfl, hb2⟩
   have hB2 := hb1.trans (hb2.mono hb1.size)
   clear hc1 hf1
   obtain ⟨hc2, hf2⟩ := bcell hB2
   have hs2 := hB2.size
   simp at hs2
   have hs2a : w.heap.size < w2.heap.size := by omega
   have hs2b : w.heap.size + 1 < w2.heap.size := by omega
   go_wp2_with fail
   go_ret
   refine ⟨rfl, ?_⟩
   repeat (first | (with_reducible exact Below.refl _ _) | ((with_reducible refine Below.setCell ?_ ?_ _); rotate_left; (focus (first | omega | (simp; done) | (simp; omega)))) | ((with_reducible refine Below.alloc ?_ ?_ _); rotate_left; (focus (first | omega | (simp; done) | (simp; omega)))) | (with_reducible refine Below.drew ?_) | ((with_reducible refine Below.trans ?_ (Below.mono hB2 ?_)); rotate_left; (focus (first | omega | (simp; done) | (simp; omega)))))
 ·have HU : Hid (M1.updB dr dn sw sc sr k tr id pa s st en lv = false) := (by unfold M1.updB M1.headB; rw [Bool.eq_false_iff.2 h1]; simp : M1.updB dr dn sw sc sr k tr id pa s st en lv = false)
  replace h1 : M1.dotOk dr dn = false := by simpa using h1
  rw [HU.out]
  go_enter Tryz.func91, Tryz.ntmps91
  go_wp2_with fail
  refine (l1Dot_any _ _ _).mono ?_
  rw [h1]
  rintro e w1 ⟨rfl, hb1⟩
  obtain ⟨hc1, hf1⟩ := bcell hb1
  have hs1 := hb1.size
  simp at hs1
  have hs1a : w.heap.size < w1.heap.size := by omega
  have hs1b : w.heap.size + 1 < w1.heap.size := by omega
  go_wp2_with fail
  go_ret
  refine ⟨rfl, ?_⟩
  repeat (first | (with_reducible exact Below.refl _ _) | ((with_reducible refine Below.setCell ?_ ?_ _); rotate_left; (focus (first | omega | (simp; done) | (simp; omega)))) | ((with_reducible refine Below.alloc ?_ ?_ _); rotate_left; (focus (first | omega | (simp; done) | (simp; omega)))) | (with_reducible refine Below.drew ?_) | ((with_reducible refine Below.trans ?_ (Below.mono hb1 ?_)); rotate_left; (focus (first | omega | (simp; done) | (simp; omega)))))

end Go.Proofs.YtgcinolbkllkkaaGreat
