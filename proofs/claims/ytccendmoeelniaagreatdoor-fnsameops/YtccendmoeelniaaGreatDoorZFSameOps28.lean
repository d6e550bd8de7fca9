/-
  Texts of one proof, joined: Is1, Reg1.
-/
import Derived.Test.YtccendmoeelniaaGreatDoorZFSameOps17
import Derived.Test.YtccendmoeelniaaGreatDoorZFSameOps06
import Derived.Test.YtccendmoeelniaaGreatDoorZFSameOps16
import Derived.Test.YtccendmoeelniaaGreatDoorZFSameOps08
import Derived.Test.YtccendmoeelniaaGreatDoorZFSameOps02
import Derived.Test.YtccendmoeelniaaGreatDoorZFSameOps01
import Derived.Test.YtccendmoeelniaaGreatDoorZFSameOps03
import Derived.Test.YtccendmoeelniaaGreatDoorZFSameOps13
namespace M1
theorem zero_cases (id pa : Int) (s : ByteArray) (st en : Int) : (id = 0 ∧ pa = 0 ∧ s.toList = [] ∧ st = 0 ∧ en = 0) ∨ (id = 0 ∧ pa = 0 ∧ s.toList = [] ∧ st = 0 ∧ ¬ en = 0) ∨ (id = 0 ∧ pa = 0 ∧ s.toList = [] ∧ ¬ st = 0) ∨ (id = 0 ∧ pa = 0 ∧ ¬ s.toList = []) ∨ (id = 0 ∧ ¬ pa = 0) ∨ ¬ id = 0 := by
 by_cases h1 : id = 0
 ·by_cases h2 : pa = 0
  ·by_cases h3 : s.toList = []
   ·by_cases h4 : st = 0
    ·by_cases h5 : en = 0
     ·exact .inl ⟨h1, h2, h3, h4, h5⟩
     ·exact .inr (.inl ⟨h1, h2, h3, h4, h5⟩)
    ·exact .inr (.inr (.inl ⟨h1, h2, h3, h4⟩))
   ·exact .inr (.inr (.inr (.inl ⟨h1, h2, h3⟩)))
  ·exact .inr (.inr (.inr (.inr (.inl ⟨h1, h2⟩))))
 ·exact .inr (.inr (.inr (.inr (.inr h1))))

theorem opB_open (k t id pa : Int) (s : ByteArray) (st en : Int) : opB ⟨k, t, id, pa, s, st, en⟩ = (inB t 1 1000 && (if k = 1 then spanB id pa s st en else inB k 2 4 && zeroB id pa s st en)) := rfl

end M1
namespace Go.Proofs.YtccendmoeelniaaGreatDoor
open Go.ChangeShapes Go.WideShapes Go.ChangeAt Go.RowKit
set_option linter.unusedSimpArgs false
set_option linter.unusedVariables false
set_option maxHeartbeats 4000000 in
theorem opOk_any (k t id pa st en : Int) (s : ByteArray) (w : World) (hs : s.size ≤ maxLen) :
  Calls Tryz.prog 84 #[.agg #[.int .i64 k, .int .i64 t, .int .i64 id, .int .i64 pa, .string s, .int .i64 st, .int .i64 en]] w fun e w' => e = .returned (.bool (M1.opB ⟨k, t, id, pa, s, st, en⟩)) ∧ Below w.heap.size w w' := by
 have HB := M1.opB_open k t id pa s st en
 obtain ⟨B, hB⟩ : ∃ B, M1.opB ⟨k, t, id, pa, s, st, en⟩ = B := ⟨_, rfl⟩
 rw [hB] at HB ⊢
 clear hB
 have HB' : Hid (B = (M1.inB t 1 1000 && (if k = 1 then M1.spanB id pa s st en else M1.inB k 2 4 && M1.zeroB id pa s st en))) := HB
 clear HB
 cases ht : M1.inB t 1 1000 with
 | false =>
  go_enter Tryz.func84, Tryz.ntmps84
  go_wp2_with (go_at_call 52; refine (inRange_any _ _ _ _).mono ?_; rw [ht]; rintro e w' ⟨rfl, rfl⟩)
  go_ret
  exact ⟨by rw [HB'.out, ht]; rfl, by repeat (first | (with_reducible exact Below.refl _ _) | ((with_reducible refine Below.setCell ?_ ?_ _); rotate_left; (focus (first | omega | (simp; done) | (simp; omega)))) | ((with_reducible refine Below.alloc ?_ ?_ _); rotate_left; (focus (first | omega | (simp; done) | (simp; omega)))) | (with_reducible refine Below.drew ?_))⟩
 | true =>
  by_cases k1 : k = 1
  ·subst k1
   have hA : Below w.heap.size w (w.alloc (.cells #[.int .i64 1, .int .i64 t, .int .i64 id, .int .i64 pa, .string s, .int .i64 st, .int .i64 en] 32)) := (Below.refl _ _).alloc (Nat.le_refl _) _
   go_enter Tryz.func84, Tryz.ntmps84
   go_wp2_with (first | (go_at_call 52; refine (inRange_any _ _ _ _).mono ?_; rw [ht]; rintro e w' ⟨rfl, rfl⟩) | fail)
   refine (spanOk_impl _ _ _ _ _ _ hs).mono ?_
   rintro e w1 ⟨rfl, hb1⟩
   go_wp2_with fail
   go_ret
   exact ⟨by rw [HB'.out, ht]; rfl, hA.trans (hb1.mono hA.size)⟩
  ·have q1 : (k == 1) = false := by simpa using k1
   by_cases hk : k = 2 ∨ k = 3 ∨ k = 4
   ·have hk2 : M1.inB k 2 4 = true := by simp [M1.inB]; omega
    have E : Hid (B = M1.zeroB id pa s st en) := (by rw [HB'.out, ht, if_neg k1, hk2]; rfl : B = M1.zeroB id pa s st en)
    rcases hk with rfl | rfl | rfl
    all_goals (rcases M1.zero_cases id pa s st en with ⟨z1, z2, z3, z4, z5⟩ | ⟨z1, z2, z3, z4, z5⟩ | ⟨z1, z2, z3, z4⟩ | ⟨z1, z2, z3⟩ | ⟨z1, z2⟩ | z1)
    all_goals (go_enter Tryz.func84, Tryz.ntmps84)
    all_goals (go_wp2_with (go_at_call 52; refine (inRange_any _ _ _ _).mono ?_; rw [ht]; rintro e w' ⟨rfl, rfl⟩))
    all_goals go_ret
    all_goals (refine ⟨by rw [E.out]; simp [M1.zeroB, *], by repeat (first | (with_reducible exact Below.refl _ _) | ((with_reducible refine Below.setCell ?_ ?_ _); rotate_left; (focus (first | omega | (simp; done) | (simp; omega)))) | ((with_reducible refine Below.alloc ?_ ?_ _); rotate_left; (focus (first | omega | (simp; done) | (simp; omega)))) | (with_reducible refine Below.drew ?_))⟩)
   ·have hk2 : M1.inB k 2 4 = false := by simp [M1.inB]; omega
    have q2 : (k == 2) = false := by simp; omega
    have q3 : (k == 3) = false := by simp; omega
    have q4 : (k == 4) = false := by simp; omega
    clear hk
    go_enter Tryz.func84, Tryz.ntmps84
    go_wp2_with (go_at_call 52; refine (inRange_any _ _ _ _).mono ?_; rw [ht]; rintro e w' ⟨rfl, rfl⟩)
    go_ret
    exact ⟨by rw [HB'.out, ht, if_neg k1, hk2]; rfl, by repeat (first | (with_reducible exact Below.refl _ _) | ((with_reducible refine Below.setCell ?_ ?_ _); rotate_left; (focus (first | omega | (simp; done) | (simp; omega)))) | ((with_reducible refine Below.alloc ?_ ?_ _); rotate_left; (focus (first | omega | (simp; done) | (simp; omega)))) | (with_reducible refine Below.drew ?_))⟩

set_option maxHeartbeats 4000000 in
theorem l5Form_any (k t id pa st en : Int) (s : ByteArray) (w : World) (hs : s.size ≤ maxLen) :
  Calls Tryz.prog 93 #[.agg #[.int .i64 k, .int .i64 t, .int .i64 id, .int .i64 pa, .string s, .int .i64 st, .int .i64 en]] w fun e w' => e = .returned (.bool (M1.opB ⟨k, t, id, pa, s, st, en⟩)) ∧ Below w.heap.size w w' := by
 have HB := M1.opB_open k t id pa s st en
 obtain ⟨B, hB⟩ : ∃ B, M1.opB ⟨k, t, id, pa, s, st, en⟩ = B := ⟨_, rfl⟩
 rw [hB] at HB ⊢
 clear hB
 have HB' : Hid (B = (M1.inB t 1 1000 && (if k = 1 then M1.spanB id pa s st en else M1.inB k 2 4 && M1.zeroB id pa s st en))) := HB
 clear HB
 cases ht : M1.inB t 1 1000 with
 | false =>
  go_enter Tryz.func93, Tryz.ntmps93
  go_wp2_with (go_at_call 65; refine (l1In_any _ _ _ _).mono ?_; (first | rw [ht] | rw [hk2]); rintro e w' ⟨rfl, rfl⟩)
  go_ret
  exact ⟨by rw [HB'.out, ht]; rfl, by repeat (first | (with_reducible exact Below.refl _ _) | ((with_reducible refine Below.setCell ?_ ?_ _); rotate_left; (focus (first | omega | (simp; done) | (simp; omega)))) | ((with_reducible refine Below.alloc ?_ ?_ _); rotate_left; (focus (first | omega | (simp; done) | (simp; omega)))) | (with_reducible refine Below.drew ?_))⟩
 | true =>
  by_cases k1 : k = 1
  ·subst k1
   have hA : Below w.heap.size w ((w.alloc (.cells #[.int .i64 1, .int .i64 t, .int .i64 id, .int .i64 pa, .string s, .int .i64 st, .int .i64 en] 32)).alloc (.cells #[.int .i64 0, .int .i64 0, .string ByteArray.empty, .int .i64 0, .int .i64 0] 30)) := ((Below.refl _ _).alloc (Nat.le_refl _) _).alloc (by simp) _
   go_enter Tryz.func93, Tryz.ntmps93
   go_wp2_with ((go_at_call 65; refine (l1In_any _ _ _ _).mono ?_; (first | rw [ht] | rw [hk2]); rintro e w' ⟨rfl, rfl⟩))
   refine (spanOk_spec _ _ _ _ _ _ hs).mono ?_
   rintro e w1 ⟨rfl, hb1⟩
   go_wp2_with fail
   go_ret
   exact ⟨by rw [HB'.out, ht]; rfl, hA.trans (hb1.mono hA.size)⟩
  ·have q1 : (k == 1) = false := by simpa using k1
   by_cases hk : k = 2 ∨ k = 3 ∨ k = 4
   ·have hk2 : M1.inB k 2 4 = true := by simp [M1.inB]; omega
    have E : Hid (B = M1.zeroB id pa s st en) := (by rw [HB'.out, ht, if_neg k1, hk2]; rfl : B = M1.zeroB id pa s st en)
    clear hk
    all_goals (rcases M1.zero_cases id pa s st en with ⟨z1, z2, z3, z4, z5⟩ | ⟨z1, z2, z3, z4, z5⟩ | ⟨z1, z2, z3, z4⟩ | ⟨z1, z2, z3⟩ | ⟨z1, z2⟩ | z1)
    all_goals (go_enter Tryz.func93, Tryz.ntmps93)
    all_goals (go_wp2_with (go_at_call 65; refine (l1In_any _ _ _ _).mono ?_; (first | rw [ht] | rw [hk2]); rintro e w' ⟨rfl, rfl⟩))
    all_goals go_ret
    all_goals (refine ⟨by rw [E.out]; simp [M1.zeroB, *], by repeat (first | (with_reducible exact Below.refl _ _) | ((with_reducible refine Below.setCell ?_ ?_ _); rotate_left; (focus (first | omega | (simp; done) | (simp; omega)))) | ((with_reducible refine Below.alloc ?_ ?_ _); rotate_left; (focus (first | omega | (simp; done) | (simp; omega)))) | (with_reducible refine Below.drew ?_))⟩)
   ·have hk2 : M1.inB k 2 4 = false := by simp [M1.inB]; omega
    have q2 : (k == 2) = false := by simp; omega
    have q3 : (k == 3) = false := by simp; omega
    have q4 : (k == 4) = false := by simp; omega
    clear hk
    go_enter Tryz.func93, Tryz.ntmps93
    go_wp2_with (go_at_call 65; refine (l1In_any _ _ _ _).mono ?_; (first | rw [ht] | rw [hk2]); rintro e w' ⟨rfl, rfl⟩)
    go_ret
    exact ⟨by rw [HB'.out, ht, if_neg k1, hk2]; rfl, by repeat (first | (with_reducible exact Below.refl _ _) | ((with_reducible refine Below.setCell ?_ ?_ _); rotate_left; (focus (first | omega | (simp; done) | (simp; omega)))) | ((with_reducible refine Below.alloc ?_ ?_ _); rotate_left; (focus (first | omega | (simp; done) | (simp; omega)))) | (with_reducible refine Below.drew ?_))⟩

end Go.Proofs.YtccendmoeelniaaGreatDoor

namespace Go.Proofs.YtccendmoeelniaaGreatDoor
open Go.ChangeShapes Go.WideShapes Go.ChangeAt Go.RowKit
set_option linter.unusedSimpArgs false
theorem later_any (sw sc sr a b c : Int) (w : World) :
  Calls Tryz.prog 54 #[.agg #[.int .i64 sw, .int .i64 sc, .int .i64 sr], .agg #[.int .i64 a, .int .i64 b, .int .i64 c]] w fun e w' => e = .returned (.bool (M1.laterB sw sc a b)) ∧ Below w.heap.size w w' := by
 unfold M1.laterB
 go_enter Tryz.func54, Tryz.ntmps54
 go_wp2
 all_goals (go_ret)
 all_goals (exact ⟨by simp_all, ((Below.refl _ _).alloc (Nat.le_refl _) _).alloc (by simp) _⟩)

end Go.Proofs.YtccendmoeelniaaGreatDoor
