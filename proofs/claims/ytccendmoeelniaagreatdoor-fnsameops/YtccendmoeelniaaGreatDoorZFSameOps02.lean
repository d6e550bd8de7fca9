/-
  Texts of one proof, joined: Span1, Span2, ToUpdS.
-/
import Derived.Test.YtccendmoeelniaaGreatDoorZFSameOps01
import Derived.Test.YtccendmoeelniaaGreatDoorZFSameOps00
namespace Go.Proofs.YtccendmoeelniaaGreatDoor
open Go.ChangeShapes Go.WideShapes Go.ChangeAt Go.RowKit
set_option maxHeartbeats 1000000 in
theorem l2Name_any (s : ByteArray) (w : World) (hs : s.size ≤ maxLen) :
  Calls Tryz.prog 136 #[.string s] w fun e w' => e = .returned (.bool (M1.nameB s)) ∧ w' = w := by
 unfold maxLen at hs
 go_enter Tryz.func136, Tryz.ntmps136
 go_wp2
 go_loop [3] (fun i => ∃ k : Nat, k ≤ s.size ∧ i = .int .i64 k ∧ Hid (∀ j (hj : j < s.size), j < k → M1.letB s[j] = true)) (fun i => s.size - (intOf i).toNat)
 case atStart => exact ⟨0, Nat.zero_le _, rfl, fun j _ hj => absurd hj (Nat.not_lt_zero _)⟩
 case round =>
  obtain ⟨k, hk, rfl, hall⟩ := hrel
  by_cases hlt : k < s.size
  ·by_cases h1 : 97 ≤ (s[k].toNat : Int)
   ·by_cases h2 : (s[k].toNat : Int) ≤ 122
    ·have HQ : Hid (∀ j (hj : j < s.size), j < k + 1 → M1.letB s[j] = true) := fun j hj hjk => by
      by_cases e : j = k
      ·subst e; simp [M1.letB, h1, h2]
      ·exact hall.out j hj (by omega)
     clear hall
     go_wp2
     go_round
     case rel => exact ⟨k + 1, by omega, by go_num, HQ⟩
     case measure => simp [intOf]; omega
    ·have HQ : Hid (M1.nameB s = false) := (by unfold M1.nameB; rw [M1.allB_no hlt (by unfold M1.letB; rw [decide_eq_false h2]; simp)]; simp : M1.nameB s = false)
     clear hall
     go_wp2
     go_ret
     exact ⟨by rw [HQ.out]; rfl, rfl⟩
   ·have HQ : Hid (M1.nameB s = false) := (by unfold M1.nameB; rw [M1.allB_no hlt (by unfold M1.letB; rw [decide_eq_false h1]; simp)]; simp : M1.nameB s = false)
    clear hall
    go_wp2
    go_ret
    exact ⟨by rw [HQ.out]; rfl, rfl⟩
  ·have HQ : Hid (M1.nameB s = (decide (1 ≤ s.size) && decide (s.size ≤ 12))) := (by unfold M1.nameB; rw [M1.allB_yes fun j hj => hall.out j hj (by omega)]; simp : M1.nameB s = (decide (1 ≤ s.size) && decide (s.size ≤ 12)))
   clear hall
   by_cases h3 : 1 ≤ s.size
   ·by_cases h4 : s.size ≤ 12
    ·go_wp2
     go_ret
     exact ⟨by rw [HQ.out]; simp [h3, h4]; omega, rfl⟩
    ·go_wp2
     go_ret
     exact ⟨by rw [HQ.out]; simp [h3, h4]; omega, rfl⟩
   ·go_wp2
    go_ret
    exact ⟨by rw [HQ.out]; simp [h3], rfl⟩

set_option maxHeartbeats 1000000 in
theorem nameOk_any (s : ByteArray) (w : World) (hs : s.size ≤ maxLen) :
  Calls Tryz.prog 133 #[.string s] w fun e w' => e = .returned (.bool (M1.nameB s)) ∧ w' = w := by
 unfold maxLen at hs
 by_cases h3 : s.size = 0
 ·have HQ : Hid (M1.nameB s = false) := (by unfold M1.nameB; simp [h3] : M1.nameB s = false)
  have h5 : ((s.size : Int) == 0) = true := by simp [h3]
  clear h3
  go_enter Tryz.func133, Tryz.ntmps133
  go_wp2
  go_ret
  exact ⟨by rw [HQ.out]; rfl, rfl⟩
 ·have h5 : ((s.size : Int) == 0) = false := by simp [h3]
  by_cases h4 : 12 < s.size
  ·have HQ : Hid (M1.nameB s = false) := (by unfold M1.nameB; simp; intro _ h; omega : M1.nameB s = false)
   go_enter Tryz.func133, Tryz.ntmps133
   go_wp2
   go_ret
   exact ⟨by rw [HQ.out]; rfl, rfl⟩
  ·go_enter Tryz.func133, Tryz.ntmps133
   go_wp2
   go_loop [3] (fun i => ∃ k : Nat, k ≤ s.size ∧ i = .int .i64 k ∧ Hid (∀ j (hj : j < s.size), j < k → M1.letB s[j] = true)) (fun i => s.size - (intOf i).toNat)
   case atStart => exact ⟨0, Nat.zero_le _, rfl, fun j _ hj => absurd hj (Nat.not_lt_zero _)⟩
   case round =>
    obtain ⟨k, hk, rfl, hall⟩ := hrel
    by_cases hlt : k < s.size
    ·by_cases h1 : 97 ≤ (s[k].toNat : Int)
     ·by_cases h2 : (s[k].toNat : Int) ≤ 122
      ·have HQ : Hid (∀ j (hj : j < s.size), j < k + 1 → M1.letB s[j] = true) := fun j hj hjk => by
        by_cases e : j = k
        ·subst e; simp [M1.letB, h1, h2]
        ·exact hall.out j hj (by omega)
       clear hall
       go_wp2
       go_round
       case rel => exact ⟨k + 1, by omega, by go_num, HQ⟩
       case measure => simp [intOf]; omega
      ·have HQ : Hid (M1.nameB s = false) := (by unfold M1.nameB; rw [M1.allB_no hlt (by unfold M1.letB; rw [decide_eq_false h2]; simp)]; simp : M1.nameB s = false)
       clear hall
       go_wp2
       go_ret
       exact ⟨by rw [HQ.out]; rfl, rfl⟩
     ·have HQ : Hid (M1.nameB s = false) := (by unfold M1.nameB; rw [M1.allB_no hlt (by unfold M1.letB; rw [decide_eq_false h1]; simp)]; simp : M1.nameB s = false)
      clear hall
      go_wp2
      go_ret
      exact ⟨by rw [HQ.out]; rfl, rfl⟩
    ·have HQ : Hid (M1.nameB s = true) := (by unfold M1.nameB; rw [M1.allB_yes fun j hj => hall.out j hj (by omega)]; simp; omega : M1.nameB s = true)
     clear hall
     go_wp2
     go_ret
     exact ⟨by rw [HQ.out]; rfl, rfl⟩

end Go.Proofs.YtccendmoeelniaaGreatDoor

namespace Go.Proofs.YtccendmoeelniaaGreatDoor
open Go.ChangeShapes Go.WideShapes Go.ChangeAt Go.RowKit
set_option maxHeartbeats 1000000 in
theorem spanOk_spec (a b c d : Int) (s : ByteArray) (w : World) (hs : s.size ≤ maxLen) :
  Calls Tryz.prog 122 #[.agg #[.int .i64 a, .int .i64 b, .string s, .int .i64 c, .int .i64 d]] w fun e w' => e = .returned (.bool (M1.spanB a b s c d)) ∧ Below w.heap.size w w' := by
 unfold M1.spanB
 go_enter Tryz.func122, Tryz.ntmps122
 go_wp2_with (first | (go_at_call 65; refine (l1In_any _ _ _ _).mono ?_; rintro e w' ⟨rfl, rfl⟩) | (go_at_call 136; refine (l2Name_any _ _ hs).mono ?_; rintro e w' ⟨rfl, rfl⟩))
 all_goals (go_ret)
 all_goals (exact ⟨by simp_all, (Below.refl _ _).alloc (Nat.le_refl _) _⟩)

set_option maxHeartbeats 1000000 in
theorem spanOk_impl (a b c d : Int) (s : ByteArray) (w : World) (hs : s.size ≤ maxLen) :
  Calls Tryz.prog 113 #[.agg #[.int .i64 a, .int .i64 b, .string s, .int .i64 c, .int .i64 d]] w fun e w' => e = .returned (.bool (M1.spanB a b s c d)) ∧ Below w.heap.size w w' := by
 rw [M1.spanB_eq]
 go_enter Tryz.func113, Tryz.ntmps113
 go_wp2_with (first | (go_at_call 52; refine (inRange_any _ _ _ _).mono ?_; rintro e w' ⟨rfl, rfl⟩) | (go_at_call 83; refine (timeOk_any _ _).mono ?_; rintro e w' ⟨rfl, rfl⟩) | (go_at_call 133; refine (nameOk_any _ _ hs).mono ?_; rintro e w' ⟨rfl, rfl⟩))
 all_goals (go_ret)
 all_goals (exact ⟨by simp_all, (Below.refl _ _).alloc (Nat.le_refl _) _⟩)

end Go.Proofs.YtccendmoeelniaaGreatDoor

namespace Go.Proofs.YtccendmoeelniaaGreatDoor
open Go.ChangeShapes Go.WideShapes Go.ChangeAt Go.RowKit
set_option linter.unusedSimpArgs false
theorem infoUpd0 : (Tryz.prog.info? 38).map (fun i => (i.zero, i.size, i.bytes)) = some (some (.agg #[.int .i64 0, .int .i64 0, .int .i64 0, .int .i64 0, .int .i64 0, .int .i64 0, .int .i64 0, .int .i64 0, .int .i64 0, .string ByteArray.empty, .int .i64 0, .int .i64 0, .int .i64 0]), 13, 112) := by kernel_rfl

theorem infoUpd : ∃ i, Tryz.prog.info? 38 = some i ∧ i.zero = some (.agg #[.int .i64 0, .int .i64 0, .int .i64 0, .int .i64 0, .int .i64 0, .int .i64 0, .int .i64 0, .int .i64 0, .int .i64 0, .string ByteArray.empty, .int .i64 0, .int .i64 0, .int .i64 0]) ∧ i.size = 13 ∧ i.bytes = 112 := by
 have h := infoUpd0
 cases e : Tryz.prog.info? 38 with
 | none => rw [e] at h; cases h
 | some i => rw [e] at h; simp at h; exact ⟨i, rfl, h.1, h.2.1, h.2.2⟩

end Go.Proofs.YtccendmoeelniaaGreatDoor
