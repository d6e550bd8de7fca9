/-
  Texts of one proof, joined: Reg2.
-/
import Derived.Test.YtgcinolbkllkkaaGreatZXWorldOk25
namespace Go.Proofs.YtgcinolbkllkkaaGreat
open Go.ChangeShapes Go.WideShapes Go.ChangeAt Go.RowKit
set_option linter.unusedSimpArgs false
set_option maxHeartbeats 8000000 in
theorem regionOk_spec (id a b c : Int) (av : Option Addr) (n cn : Nat) (us : List M1.Upd) (w : World) (h1 : IsUpds w av n cn us) :
  Calls Tryz.prog 28 #[.agg #[.int .i64 id, .int .i64 a, .int .i64 b, .int .i64 c, .slice av n cn]] w fun e w' => e = .returned (.bool (M1.regOk id a b c us)) ∧ Below w.heap.size w w' := by
 have hl1 : Hid (us.length = n) := h1.hlen
 have hm1 := h1.hcap
 have hm2 := h1.hmost
 unfold maxLen at hm2
 by_cases q1 : M1.inB id 1 5 = true
 ·by_cases q2 : M1.stOk a b c = true
  ·by_cases q3 : c = id
   ·by_cases q4 : M1.setOk us = true
    ·rw [M1.regOk_5 q1 q2 q3 q4]
     have q3b : (c != id) = false := by simp [q3]
     clear q3
     go_enter Tryz.func28, Tryz.ntmps28
     go_wp2_with fail
     refine (l1In_any _ _ _ _).mono ?_
     rw [q1]
     rintro e w0 ⟨rfl, rfl⟩
     go_wp2_with fail
     refine (stampOk_spec _ _ _ _).mono ?_
     rw [q2]
     rintro e w1 ⟨rfl, hb1⟩
     obtain ⟨hc1, hf1⟩ := bcell hb1
     have hs1 := hb1.size
     simp at hs1
     have hs1a : w.heap.size < w1.heap.size := by omega
     have hB1 : Below w.heap.size w w1 := by repeat (first | (with_reducible exact Below.refl _ _) | ((with_reducible refine Below.setCell ?_ ?_ _); rotate_left; (focus (first | omega | (simp; done) | (simp; omega)))) | ((with_reducible refine Below.alloc ?_ ?_ _); rotate_left; (focus (first | omega | (simp; done) | (simp; omega)))) | (with_reducible refine Below.drew ?_) | ((with_reducible refine Below.trans ?_ (Below.mono hb1 ?_)); rotate_left; (focus (first | omega | (simp; done) | (simp; omega)))))
     go_wp2_with fail
     refine (setOk_spec _ _ _ _ _ (h1.below hB1)).mono ?_
     rw [q4]
     rintro e w2 ⟨rfl, hb2⟩
     have hB2 := hb1.trans (hb2.mono hb1.size)
     clear hc1 hf1
     obtain ⟨hc2, hf2⟩ := bcell hB2
     have hs2 := hB2.size
     simp at hs2
     have hs2a : w.heap.size < w2.heap.size := by omega
     have hB2' : Below w.heap.size w w2 := by repeat (first | (with_reducible exact Below.refl _ _) | ((with_reducible refine Below.setCell ?_ ?_ _); rotate_left; (focus (first | omega | (simp; done) | (simp; omega)))) | ((with_reducible refine Below.alloc ?_ ?_ _); rotate_left; (focus (first | omega | (simp; done) | (simp; omega)))) | (with_reducible refine Below.drew ?_) | ((with_reducible refine Below.trans ?_ (Below.mono hB2 ?_)); rotate_left; (focus (first | omega | (simp; done) | (simp; omega)))))
     go_wp2_with fail
     go_loopw [3] (fun i wr => ∃ k : Nat, k ≤ n ∧ i = .int .i64 k ∧ Below (w.alloc (.cells #[.int .i64 id, .int .i64 a, .int .i64 b, .int .i64 c, .slice av n cn] 34)).heap.size (w.alloc (.cells #[.int .i64 id, .int .i64 a, .int .i64 b, .int .i64 c, .slice av n cn] 34)) wr ∧ Hid (∀ j, j < k → M1.laterB (M1.up us j).sw (M1.up us j).sc a b = false)) (fun i _ => n - (intOf i).toNat)
     case atStart => exact ⟨0, Nat.zero_le _, rfl, hB2, fun j hj => absurd hj (Nat.not_lt_zero _)⟩
     case round =>
      clear hc2 hf2
      obtain ⟨k, hk, rfl, hB, hall⟩ := hrel
      obtain ⟨hcr, hfr⟩ := bcell hB
      have hsr := hB.size
      simp at hsr
      have hsra : w.heap.size < wr.heap.size := by omega
      have hBw : Below w.heap.size w wr := by repeat (first | (with_reducible exact Below.refl _ _) | ((with_reducible refine Below.setCell ?_ ?_ _); rotate_left; (focus (first | omega | (simp; done) | (simp; omega)))) | ((with_reducible refine Below.alloc ?_ ?_ _); rotate_left; (focus (first | omega | (simp; done) | (simp; omega)))) | (with_reducible refine Below.drew ?_) | ((with_reducible refine Below.trans ?_ (Below.mono hB ?_)); rotate_left; (focus (first | omega | (simp; done) | (simp; omega)))))
      by_cases hlt : k < n
      ·have g1 := h1.below hBw
       rcases g1.hlies with h0 | ⟨bb, off, rfl, hbb, hcc⟩
       ·omega
       obtain ⟨c0, c1, c2, c3, c4, c5, c6, c7, c8, c9, c10, c11, c12⟩ := hcc k hlt
       clear hcc g1
       have i0 : (0 : Int) ≤ (k : Int) := by omega
       have i1 : (k : Int) < (n : Int) := by omega
       by_cases p1 : a < (M1.up us k).sw
       ·have hq : M1.laterB (M1.up us k).sw (M1.up us k).sc a b = true := by simp [M1.laterB, p1]
        have HQ : Hid (M1.noneLater us a b = false) := M1.noneLater_no (j := k) (by have := hl1.out; omega) hq
        clear hall hq
        go_wp2_with fail
        go_ret
        refine ⟨by rw [HQ.out]; rfl, ?_⟩
        repeat (first | (with_reducible exact Below.refl _ _) | ((with_reducible refine Below.setCell ?_ ?_ _); rotate_left; (focus (first | omega | (simp; done) | (simp; omega)))) | ((with_reducible refine Below.alloc ?_ ?_ _); rotate_left; (focus (first | omega | (simp; done) | (simp; omega)))) | (with_reducible refine Below.drew ?_) | ((with_reducible refine Below.trans ?_ (Below.mono hB ?_)); rotate_left; (focus (first | omega | (simp; done) | (simp; omega)))))
       ·have p1b : decide (a < (M1.up us k).sw) = false := decide_eq_false p1
        by_cases p2 : (M1.up us k).sw = a
        ·have p2b : ((M1.up us k).sw == a) = true := by simp [p2]
         by_cases p3 : b < (M1.up us k).sc
         ·have hq : M1.laterB (M1.up us k).sw (M1.up us k).sc a b = true := by simp [M1.laterB, p2, p3]
          clear p2 p1
          have HQ : Hid (M1.noneLater us a b = false) := M1.noneLater_no (j := k) (by have := hl1.out; omega) hq
          clear hall hq
          go_wp2_with fail
          go_ret
          refine ⟨by rw [HQ.out]; rfl, ?_⟩
          repeat (first | (with_reducible exact Below.refl _ _) | ((with_reducible refine Below.setCell ?_ ?_ _); rotate_left; (focus (first | omega | (simp; done) | (simp; omega)))) | ((with_reducible refine Below.alloc ?_ ?_ _); rotate_left; (focus (first | omega | (simp; done) | (simp; omega)))) | (with_reducible refine Below.drew ?_) | ((with_reducible refine Below.trans ?_ (Below.mono hB ?_)); rotate_left; (focus (first | omega | (simp; done) | (simp; omega)))))
         ·have hq : M1.laterB (M1.up us k).sw (M1.up us k).sc a b = false := by simp [M1.laterB, p2, p3] <;> omega
          have p3b : decide (b < (M1.up us k).sc) = false := decide_eq_false p3
          clear p1 p2 p3
          have HQ : Hid (∀ j, j < k + 1 → M1.laterB (M1.up us j).sw (M1.up us j).sc a b = false) := fun j hj => by
           by_cases e : j = k
           ·rw [e]; exact hq
           ·exact hall.out j (by omega)
          clear hall hq
          go_wp2_with fail
          refine ⟨⟨k + 1, by omega, by go_num, ?_, HQ⟩, by simp [intOf]; omega⟩
          repeat (first | (with_reducible exact Below.refl _ _) | ((with_reducible refine Below.setCell ?_ ?_ _); rotate_left; (focus (first | omega | (simp; done) | (simp; omega)))) | ((with_reducible refine Below.alloc ?_ ?_ _); rotate_left; (focus (first | omega | (simp; done) | (simp; omega)))) | (with_reducible refine Below.drew ?_) | ((with_reducible refine Below.trans ?_ (Below.mono hB ?_)); rotate_left; (focus (first | omega | (simp; done) | (simp; omega)))))
        ·have hq : M1.laterB (M1.up us k).sw (M1.up us k).sc a b = false := by simp [M1.laterB, p2] <;> omega
         have p2b : ((M1.up us k).sw == a) = false := by simp [p2]
         clear p1 p2
         have HQ : Hid (∀ j, j < k + 1 → M1.laterB (M1.up us j).sw (M1.up us j).sc a b = false) := fun j hj => by
          by_cases e : j = k
          ·rw [e]; exact hq
          ·exact hall.out j (by omega)
         clear hall hq
         go_wp2_with fail
         refine ⟨⟨k + 1, by omega, by go_num, ?_, HQ⟩, by simp [intOf]; omega⟩
         repeat (first | (with_reducible exact Below.refl _ _) | ((with_reducible refine Below.setCell ?_ ?_ _); rotate_left; (focus (first | omega | (simp; done) | (simp; omega)))) | ((with_reducible refine Below.alloc ?_ ?_ _); rotate_left; (focus (first | omega | (simp; done) | (simp; omega)))) | (with_reducible refine Below.drew ?_) | ((with_reducible refine Below.trans ?_ (Below.mono hB ?_)); rotate_left; (focus (first | omega | (simp; done) | (simp; omega)))))
      ·have HQ : Hid (M1.noneLater us a b = true) := M1.noneLater_yes (fun j hj => hall.out j (by have := hl1.out; omega))
       clear hall
       go_wp2_with fail
       go_ret
       refine ⟨by rw [HQ.out]; rfl, ?_⟩
       repeat (first | (with_reducible exact Below.refl _ _) | ((with_reducible refine Below.setCell ?_ ?_ _); rotate_left; (focus (first | omega | (simp; done) | (simp; omega)))) | ((with_reducible refine Below.alloc ?_ ?_ _); rotate_left; (focus (first | omega | (simp; done) | (simp; omega)))) | (with_reducible refine Below.drew ?_) | ((with_reducible refine Below.trans ?_ (Below.mono hB ?_)); rotate_left; (focus (first | omega | (simp; done) | (simp; omega)))))
    ·replace q4 : M1.setOk us = false := by simpa using q4
     rw [M1.regOk_4 q4]
     have q3b : (c != id) = false := by simp [q3]
     clear q3
     go_enter Tryz.func28, Tryz.ntmps28
     go_wp2_with fail
     refine (l1In_any _ _ _ _).mono ?_
     rw [q1]
     rintro e w0 ⟨rfl, rfl⟩
     go_wp2_with fail
     refine (stampOk_spec _ _ _ _).mono ?_
     rw [q2]
     rintro e w1 ⟨rfl, hb1⟩
     obtain ⟨hc1, hf1⟩ := bcell hb1
     have hs1 := hb1.size
     simp at hs1
     have hs1a : w.heap.size < w1.heap.size := by omega
     have hB1 : Below w.heap.size w w1 := by repeat (first | (with_reducible exact Below.refl _ _) | ((with_reducible refine Below.setCell ?_ ?_ _); rotate_left; (focus (first | omega | (simp; done) | (simp; omega)))) | ((with_reducible refine Below.alloc ?_ ?_ _); rotate_left; (focus (first | omega | (simp; done) | (simp; omega)))) | (with_reducible refine Below.drew ?_) | ((with_reducible refine Below.trans ?_ (Below.mono hb1 ?_)); rotate_left; (focus (first | omega | (simp; done) | (simp; omega)))))
     go_wp2_with fail
     refine (setOk_spec _ _ _ _ _ (h1.below hB1)).mono ?_
     rw [q4]
     rintro e w2 ⟨rfl, hb2⟩
     have hB2 := hb1.trans (hb2.mono hb1.size)
     clear hc1 hf1
     obtain ⟨hc2, hf2⟩ := bcell hB2
     have hs2 := hB2.size
     simp at hs2
     have hs2a : w.heap.size < w2.heap.size := by omega
     have hB2' : Below w.heap.size w w2 := by repeat (first | (with_reducible exact Below.refl _ _) | ((with_reducible refine Below.setCell ?_ ?_ _); rotate_left; (focus (first | omega | (simp; done) | (simp; omega)))) | ((with_reducible refine Below.alloc ?_ ?_ _); rotate_left; (focus (first | omega | (simp; done) | (simp; omega)))) | (with_reducible refine Below.drew ?_) | ((with_reducible refine Below.trans ?_ (Below.mono hB2 ?_)); rotate_left; (focus (first | omega | (simp; done) | (simp; omega)))))
     go_wp2_with fail
     go_ret
     refine ⟨rfl, ?_⟩
     exact hB2'
   ·have q3b : (c != id) = true := by simp [q3]
    rw [M1.regOk_3 q3]
    clear q3
    go_enter Tryz.func28, Tryz.ntmps28
    go_wp2_with fail
    refine (l1In_any _ _ _ _).mono ?_
    rw [q1]
    rintro e w0 ⟨rfl, rfl⟩
    go_wp2_with fail
    refine (stampOk_spec _ _ _ _).mono ?_
    rw [q2]
    rintro e w1 ⟨rfl, hb1⟩
    obtain ⟨hc1, hf1⟩ := bcell hb1
    have hs1 := hb1.size
    simp at hs1
    have hs1a : w.heap.size < w1.heap.size := by omega
    have hB1 : Below w.heap.size w w1 := by repeat (first | (with_reducible exact Below.refl _ _) | ((with_reducible refine Below.setCell ?_ ?_ _); rotate_left; (focus (first | omega | (simp; done) | (simp; omega)))) | ((with_reducible refine Below.alloc ?_ ?_ _); rotate_left; (focus (first | omega | (simp; done) | (simp; omega)))) | (with_reducible refine Below.drew ?_) | ((with_reducible refine Below.trans ?_ (Below.mono hb1 ?_)); rotate_left; (focus (first | omega | (simp; done) | (simp; omega)))))
    go_wp2_with fail
    go_ret
    refine ⟨rfl, ?_⟩
    exact hB1
  ·replace q2 : M1.stOk a b c = false := by simpa using q2
   rw [M1.regOk_2 q2]
   go_enter Tryz.func28, Tryz.ntmps28
   go_wp2_with fail
   refine (l1In_any _ _ _ _).mono ?_
   rw [q1]
   rintro e w0 ⟨rfl, rfl⟩
   go_wp2_with fail
   refine (stampOk_spec _ _ _ _).mono ?_
   rw [q2]
   rintro e w1 ⟨rfl, hb1⟩
   obtain ⟨hc1, hf1⟩ := bcell hb1
   have hs1 := hb1.size
   simp at hs1
   have hs1a : w.heap.size < w1.heap.size := by omega
   have hB1 : Below w.heap.size w w1 := by repeat (first | (with_reducible exact Below.refl _ _) | ((with_reducible refine Below.setCell ?_ ?_ _); rotate_left; (focus (first | omega | (simp; done) | (simp; omega)))) | ((with_reducible refine Below.alloc ?_ ?_ _); rotate_left; (focus (first | omega | (simp; done) | (simp; omega)))) | (with_reducible refine Below.drew ?_) | ((with_reducible refine Below.trans ?_ (Below.mono hb1 ?_)); rotate_left; (focus (first | omega | (simp; done) | (simp; omega)))))
   go_wp2_with fail
   go_ret
   refine ⟨rfl, ?_⟩
   exact hB1
 ·replace q1 : M1.inB id 1 5 = false := by simpa using q1
  rw [M1.regOk_1 q1]
  go_enter Tryz.func28, Tryz.ntmps28
  go_wp2_with fail
  refine (l1In_any _ _ _ _).mono ?_
  rw [q1]
  rintro e w0 ⟨rfl, rfl⟩
  go_wp2_with fail
  go_ret
  refine ⟨rfl, ?_⟩
  repeat (first | (with_reducible exact Below.refl _ _) | ((with_reducible refine Below.setCell ?_ ?_ _); rotate_left; (focus (first | omega | (simp; done) | (simp; omega)))) | ((with_reducible refine Below.alloc ?_ ?_ _); rotate_left; (focus (first | omega | (simp; done) | (simp; omega)))) | (with_reducible refine Below.drew ?_))

end Go.Proofs.YtgcinolbkllkkaaGreat
