/-
  Texts of one proof, joined: TkT.
-/
import Derived.Test.YtccendmoeelniaaGreatDoorZFSameOps39
import Derived.Test.YtccendmoeelniaaGreatDoorZFSameOps15
namespace Go.Proofs.YtccendmoeelniaaGreatDoor
open Go.ChangeShapes Go.WideShapes Go.ChangeAt Go.RowKit
set_option linter.unusedSimpArgs false
set_option linter.unusedVariables false
set_option maxHeartbeats 8000000 in
set_option maxRecDepth 100000 in
theorem taken_spec (av bv : Option Addr) (n cn m cm : Nat) (xs ys : List M1.Upd) (w : World) (h1 : IsUpds w av n cn xs) (h2 : IsUpds w bv m cm ys) :
  Calls Tryz.prog 103 #[.slice av n cn, .slice bv m cm] w fun e w' => Jd w w' e (M1.tL xs ys) (M1.tOk xs ys) ∧ Below w.heap.size w w' := by
 have hl2 : Hid (ys.length = m) := h2.hlen
 have hm3 := h2.hcap
 have hm4 := h2.hmost
 unfold maxLen at hm4
 by_cases hs1 : M1.setOk xs = true
 ·by_cases hm60 : m ≤ 60
  ·have hgt : decide ((60 : Int) < (m : Int)) = false := decide_eq_false (by omega)
   have hgt2 : decide (60 < m) = false := decide_eq_false (by omega)
   have HS : Hid (M1.setOk xs = true) := hs1
   have h60 : Hid (ys.length ≤ 60) := (by have := hl2.out; omega : ys.length ≤ 60)
   go_enter Tryz.func103, Tryz.ntmps103
   go_wp2_with fail
   refine (setOk_spec _ _ _ _ _ h1).mono ?_
   rw [hs1]
   rintro e w1 ⟨rfl, hb1⟩
   clear hs1
   go_wp2_with fail
   go_loopw [6] (fun i wr => ∃ k : Nat, k ≤ m ∧ i = .int .i64 k ∧ Below w.heap.size w wr ∧ Hid (∀ j, j < k → M1.okU (M1.up ys j) = true)) (fun i _ => m - (intOf i).toNat)
   case atStart => exact ⟨0, Nat.zero_le _, rfl, hb1, fun j hj => absurd hj (Nat.not_lt_zero _)⟩
   case round =>
    clear hb1
    obtain ⟨k, hk, rfl, hB, hall⟩ := hrel
    by_cases hlt : k < m
    ·have g1 := h2.below hB
     rcases g1.hlies with h0 | ⟨b, off, rfl, hb, hc⟩
     ·omega
     obtain ⟨c0, c1, c2, c3, c4, c5, c6, c7, c8, c9, c10, c11, c12⟩ := hc k hlt
     have hs := h2.htxt k hlt
     have i0 : (0 : Int) ≤ (k : Int) := by omega
     have i1 : (k : Int) < (m : Int) := by omega
     clear hc g1
     by_cases hu : M1.okU (M1.up ys k) = true
     ·have hok : M1.updB (M1.up ys k).dr (M1.up ys k).dn (M1.up ys k).sw (M1.up ys k).sc (M1.up ys k).sr (M1.up ys k).k (M1.up ys k).tr (M1.up ys k).id (M1.up ys k).pa (M1.up ys k).s (M1.up ys k).st (M1.up ys k).en (M1.up ys k).lv = true := hu
      have HQ : Hid (∀ j, j < k + 1 → M1.okU (M1.up ys j) = true) := fun j hj => by
       by_cases e : j = k
       ·rw [e]; exact hu
       ·exact hall.out j (by omega)
      clear hall hu
      go_wp2_with fail
      refine (updateOk_spec _ _ _ _ _ _ _ _ _ _ _ _ _ _ hs).mono ?_
      rw [hok]
      rintro e w2 ⟨rfl, hb2⟩
      have hB1 : Below w.heap.size w w2 := hB.trans (hb2.mono hB.size)
      go_wp2_with fail
      exact ⟨⟨k + 1, by omega, by go_num, hB1, HQ⟩, by simp [intOf]; omega⟩
     ·replace hu : M1.okU (M1.up ys k) = false := by simpa using hu
      have hok : M1.updB (M1.up ys k).dr (M1.up ys k).dn (M1.up ys k).sw (M1.up ys k).sc (M1.up ys k).sr (M1.up ys k).k (M1.up ys k).tr (M1.up ys k).id (M1.up ys k).pa (M1.up ys k).s (M1.up ys k).st (M1.up ys k).en (M1.up ys k).lv = false := hu
      have HQ : Hid (M1.tpre xs ys = false) := (by simp [M1.tpre, M1.allR_no (j := k) (by rw [hl2.out]; exact hlt) hu] : M1.tpre xs ys = false)
      clear hall hu
      go_wp2_with fail
      refine (updateOk_spec _ _ _ _ _ _ _ _ _ _ _ _ _ _ hs).mono ?_
      rw [hok]
      rintro e w2 ⟨rfl, hb2⟩
      have hB1 : Below w.heap.size w w2 := hB.trans (hb2.mono hB.size)
      go_wp2_with fail
      have q := M1.t_no HQ.out
      refine bodyPost_ret (v := .tuple #[.slice none 0 0, .bool false]) (by simp [results, Tryz.results103, go_sem]) rfl ⟨?_, hB1⟩
      rw [q.1, q.2]
      exact jd_nil _ _
    ·have HP : Hid (M1.tpre xs ys = true) := (by simp [M1.tpre, HS.out, h60.out, M1.allR_yes (ys := ys) fun j hj => hall.out j (by have := hl2.out; omega)] : M1.tpre xs ys = true)
     clear hall
     go_wp2_with fail
     refine (l3Taken_any _ _ _ _ _ _ _ _ _ (h1.below hB) (h2.below hB) HP).mono ?_
     obtain ⟨okb, hok⟩ : ∃ q, Hid (M1.setOk (M1.tO xs ys) = q) := ⟨_, rfl⟩
     rw [hok.out]
     rintro e w4 ⟨⟨a, c, rfl, mu4⟩, hb4⟩
     have hB4 := hB.trans (hb4.mono hB.size)
     have hsz := hB.size
     cases okb with
     | true =>
      have q := M1.t_yes HP.out hok.out
      have Q1 : Hid (M1.tOk xs ys = true) := q.1
      have Q2 : Hid (M1.tL xs ys = M1.tO xs ys) := q.2
      clear q
      go_wp2_with fail
      refine bodyPost_ret (v := .tuple #[.slice a (M1.tO xs ys).length c, .bool true]) (by simp [results, Tryz.results103, go_sem]) rfl ⟨?_, hB4⟩
      rw [Q1.out, Q2.out]
      exact ⟨a, c, rfl, mu4.widen hsz (Nat.le_refl _)⟩
     | false =>
      have q := M1.t_not hok.out
      have Q1 : Hid (M1.tOk xs ys = false) := q.1
      have Q2 : Hid (M1.tL xs ys = []) := q.2
      clear q
      go_wp2_with fail
      refine bodyPost_ret (v := .tuple #[.slice none 0 0, .bool false]) (by simp [results, Tryz.results103, go_sem]) rfl ⟨?_, hB4⟩
      rw [Q1.out, Q2.out]
      exact jd_nil _ _
  ·have hgt : decide ((60 : Int) < (m : Int)) = true := decide_eq_true (by omega)
   have hgt2 : decide (60 < m) = true := decide_eq_true (by omega)
   have hp : M1.tpre xs ys = false := by
    have : ¬ ys.length ≤ 60 := by have := hl2.out; omega
    simp [M1.tpre, this]
   have q := M1.t_no hp
   rw [q.1, q.2]
   go_enter Tryz.func103, Tryz.ntmps103
   go_wp2_with fail
   refine (setOk_spec _ _ _ _ _ h1).mono ?_
   rw [hs1]
   rintro e w1 ⟨rfl, hb1⟩
   go_wp2_with fail
   exact bodyPost_ret (v := .tuple #[.slice none 0 0, .bool false]) (by simp [results, Tryz.results103, go_sem]) rfl ⟨jd_nil _ _, hb1⟩
 ·replace hs1 : M1.setOk xs = false := by simpa using hs1
  have hp : M1.tpre xs ys = false := by simp [M1.tpre, hs1]
  have q := M1.t_no hp
  rw [q.1, q.2]
  go_enter Tryz.func103, Tryz.ntmps103
  go_wp2_with fail
  refine (setOk_spec _ _ _ _ _ h1).mono ?_
  rw [hs1]
  rintro e w1 ⟨rfl, hb1⟩
  go_wp2_with fail
  exact bodyPost_ret (v := .tuple #[.slice none 0 0, .bool false]) (by simp [results, Tryz.results103, go_sem]) rfl ⟨jd_nil _ _, hb1⟩

end Go.Proofs.YtccendmoeelniaaGreatDoor
