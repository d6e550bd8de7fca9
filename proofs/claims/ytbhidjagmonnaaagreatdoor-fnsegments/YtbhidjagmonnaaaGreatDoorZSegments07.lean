/-
  Texts of one proof, joined: Walk1, Vec1, Span1, Span2.
-/
import Derived.Test.YtbhidjagmonnaaaGreatDoorRows
import Derived.Test.YtbhidjagmonnaaaGreatDoorZSegments03
import Derived.Test.YtbhidjagmonnaaaGreatDoorZSegments00
import Derived.WalkKit
import Derived.ProofKit
import Derived.OpenShut
import Derived.Below
import Derived.Deep.RegionHeld3
import Derived.Deep.DrawnRows
import Derived.Deep.DeepCutAuto
import Derived.Deep.LoopGhost
import Derived.Test.YtbhidjagmonnaaaGreatDoorZSegments04
namespace Go.Proofs.YtbhidjagmonnaaaGreatDoor
open Go.ChangeShapes Go.WideShapes Go.ChangeAt Go.RowKit

theorem l1In_any (n lo hi : Int) (w : World) :
    Calls Tryz.prog 55 #[.int .i64 n, .int .i64 lo, .int .i64 hi] w fun e w' => e = .returned (.bool (M1.inB n lo hi)) ∧ w' = w := by
  unfold M1.inB
  by_cases h1 : lo ≤ n <;> by_cases h2 : n ≤ hi
  all_goals
    go_enter Tryz.func55, Tryz.ntmps55
    go_wp2
    go_ret
    exact ⟨by simp [*], rfl⟩

theorem inRange_any (n lo hi : Int) (w : World) :
    Calls Tryz.prog 67 #[.int .i64 n, .int .i64 lo, .int .i64 hi] w fun e w' => e = .returned (.bool (M1.inB n lo hi)) ∧ w' = w := by
  unfold M1.inB
  by_cases h1 : lo ≤ n <;> by_cases h2 : n ≤ hi
  all_goals
    go_enter Tryz.func67, Tryz.ntmps67
    go_wp2
    go_ret
    exact ⟨by simp [*], rfl⟩

theorem timeOk_any (n : Int) (w : World) :
    Calls Tryz.prog 87 #[.int .i64 n] w fun e w' => e = .returned (.bool (M1.inB n 0 1000000000)) ∧ w' = w := by
  go_enter Tryz.func87, Tryz.ntmps87
  go_wp2_with ((go_at_call 67; refine (inRange_any _ _ _ _).mono ?_; rintro e w' ⟨rfl, rfl⟩))
  go_ret
  exact ⟨rfl, rfl⟩

theorem stampOk_spec (a b c : Int) (w : World) :
    Calls Tryz.prog 54 #[.agg #[.int .i64 a, .int .i64 b, .int .i64 c]] w fun e w' => e = .returned (.bool (M1.stOk a b c)) ∧ Below w.heap.size w w' := by
  unfold M1.stOk
  go_enter Tryz.func54, Tryz.ntmps54
  go_wp2_with ((go_at_call 55; refine (l1In_any _ _ _ _).mono ?_; rintro e w' ⟨rfl, rfl⟩))
  all_goals (go_ret)
  all_goals (exact ⟨by simp [*], (Below.refl _ _).alloc (Nat.le_refl _) _⟩)

theorem stampOk_impl (a b c : Int) (w : World) :
    Calls Tryz.prog 66 #[.agg #[.int .i64 a, .int .i64 b, .int .i64 c]] w fun e w' => e = .returned (.bool (M1.stOk a b c)) ∧ Below w.heap.size w w' := by
  unfold M1.stOk
  go_enter Tryz.func66, Tryz.ntmps66
  go_wp2_with (first | (go_at_call 67; refine (inRange_any _ _ _ _).mono ?_; rintro e w' ⟨rfl, rfl⟩) | (go_at_call 87; refine (timeOk_any _ _).mono ?_; rintro e w' ⟨rfl, rfl⟩))
  all_goals (go_ret)
  all_goals (exact ⟨by simp [*], (Below.refl _ _).alloc (Nat.le_refl _) _⟩)

theorem ahead_spec (a b c x y z : Int) (w : World) :
    Calls Tryz.prog 30 #[.agg #[.int .i64 a, .int .i64 b, .int .i64 c], .agg #[.int .i64 x, .int .i64 y, .int .i64 z]] w fun e w' => e = .returned (.bool (M1.aheadB a b c x y z)) ∧ Below w.heap.size w w' := by
  unfold M1.aheadB
  go_enter Tryz.func30, Tryz.ntmps30
  go_wp2
  all_goals (go_ret)
  all_goals (exact ⟨by simp_all, ((Below.refl _ _).alloc (Nat.le_refl _) _).alloc (by simp) _⟩)

theorem ahead_impl (a b c x y z : Int) (w : World) :
    Calls Tryz.prog 68 #[.agg #[.int .i64 a, .int .i64 b, .int .i64 c], .agg #[.int .i64 x, .int .i64 y, .int .i64 z]] w fun e w' => e = .returned (.bool (M1.aheadB a b c x y z)) ∧ Below w.heap.size w w' := by
  unfold M1.aheadB
  go_enter Tryz.func68, Tryz.ntmps68
  go_wp2
  all_goals (go_ret)
  all_goals (exact ⟨by simp_all, ((Below.refl _ _).alloc (Nat.le_refl _) _).alloc (by simp) _⟩)

end Go.Proofs.YtbhidjagmonnaaaGreatDoor

namespace Go.Proofs.YtbhidjagmonnaaaGreatDoor
open Go.ChangeShapes Go.WideShapes Go.ChangeAt Go.RowKit

/-- A slice of dots: its elements are ds, two cells each. -/
structure IsVec (w : World) (av : Option Addr) (len cap : Nat) (ds : List (Int × Int)) : Prop where
  hlen : ds.length = len
  hcap : len ≤ cap
  hmost : cap ≤ maxLen
  hlies : len = 0 ∨ ∃ b off, av = some ⟨b, off, none⟩ ∧ b < w.heap.size ∧ ∀ i, i < len → w.cell? ⟨b, off + i * 2, none⟩ = some (.int .i64 (M1.rg ds i)) ∧ w.cell? ⟨b, off + i * 2 + 1, none⟩ = some (.int .i64 (M1.nm ds i))

theorem IsVec.below {w w' : World} {av : Option Addr} {len cap : Nat} {ds : List (Int × Int)} (h : IsVec w av len cap ds) (hb : Below w.heap.size w w') : IsVec w' av len cap ds :=
  ⟨h.hlen, h.hcap, h.hmost, h.hlies.imp id fun ⟨b, off, e, hlt, hc⟩ => ⟨b, off, e, Nat.lt_of_lt_of_le hlt hb.size, fun i hi => ⟨(hb.cell (p := ⟨b, off + i * 2, none⟩) hlt).trans (hc i hi).1, (hb.cell (p := ⟨b, off + i * 2 + 1, none⟩) hlt).trans (hc i hi).2⟩⟩⟩

theorem l1Dot_any (a b : Int) (w : World) :
    Calls Tryz.prog 53 #[.agg #[.int .i64 a, .int .i64 b]] w fun e w' => e = .returned (.bool (M1.dotOk a b)) ∧ Below w.heap.size w w' := by
  unfold M1.dotOk
  go_enter Tryz.func53, Tryz.ntmps53
  go_wp2_with ((go_at_call 55; refine (l1In_any _ _ _ _).mono ?_; rintro e w' ⟨rfl, rfl⟩))
  all_goals (go_ret)
  all_goals (exact ⟨by simp [*], (Below.refl _ _).alloc (Nat.le_refl _) _⟩)

theorem dotOk_any (a b : Int) (w : World) :
    Calls Tryz.prog 65 #[.agg #[.int .i64 a, .int .i64 b]] w fun e w' => e = .returned (.bool (M1.dotOk a b)) ∧ Below w.heap.size w w' := by
  unfold M1.dotOk
  go_enter Tryz.func65, Tryz.ntmps65
  go_wp2_with ((go_at_call 67; refine (inRange_any _ _ _ _).mono ?_; rintro e w' ⟨rfl, rfl⟩))
  all_goals (go_ret)
  all_goals (exact ⟨by simp [*], (Below.refl _ _).alloc (Nat.le_refl _) _⟩)

theorem eqDot_any (a b x y : Int) (w : World) :
    Calls Tryz.prog 70 #[.agg #[.int .i64 a, .int .i64 b], .agg #[.int .i64 x, .int .i64 y]] w fun e w' => e = .returned (.bool (M1.eqd a b x y)) ∧ Below w.heap.size w w' := by
  unfold M1.eqd
  go_enter Tryz.func70, Tryz.ntmps70
  go_wp2
  all_goals (go_ret)
  all_goals (refine ⟨by simp_all, ?_⟩)
  all_goals (repeat (first | (with_reducible exact Below.refl _ _) | ((with_reducible refine Below.setCell ?_ ?_ _); rotate_left; (focus (first | omega | (simp; done) | (simp; omega)))) | ((with_reducible refine Below.alloc ?_ ?_ _); rotate_left; (focus (first | omega | (simp; done) | (simp; omega)))) | (with_reducible refine Below.drew ?_)))

end Go.Proofs.YtbhidjagmonnaaaGreatDoor

namespace Go.Proofs.YtbhidjagmonnaaaGreatDoor
open Go.ChangeShapes Go.WideShapes Go.ChangeAt Go.RowKit

set_option maxHeartbeats 1000000 in
theorem l2Name_any (s : ByteArray) (w : World) (hs : s.size ≤ maxLen) :
    Calls Tryz.prog 78 #[.string s] w fun e w' => e = .returned (.bool (M1.nameB s)) ∧ w' = w := by
  unfold maxLen at hs
  go_enter Tryz.func78, Tryz.ntmps78
  go_wp2
  go_loop [3] (fun i => ∃ k : Nat, k ≤ s.size ∧ i = .int .i64 k ∧ Hid (∀ j (hj : j < s.size), j < k → M1.letB s[j] = true)) (fun i => s.size - (intOf i).toNat)
  case atStart => exact ⟨0, Nat.zero_le _, rfl, fun j _ hj => absurd hj (Nat.not_lt_zero _)⟩
  case round =>
    obtain ⟨k, hk, rfl, hall⟩ := hrel
    by_cases hlt : k < s.size
    · by_cases h1 : 97 ≤ (s[k].toNat : Int)
      · by_cases h2 : (s[k].toNat : Int) ≤ 122
        · have HQ : Hid (∀ j (hj : j < s.size), j < k + 1 → M1.letB s[j] = true) := fun j hj hjk => by
            by_cases e : j = k
            · subst e; simp [M1.letB, h1, h2]
            · exact hall.out j hj (by omega)
          clear hall
          go_wp2
          go_round
          case rel => exact ⟨k + 1, by omega, by go_num, HQ⟩
          case measure => simp [intOf]; omega
        · have HQ : Hid (M1.nameB s = false) := (by unfold M1.nameB; rw [M1.allB_no hlt (by unfold M1.letB; rw [decide_eq_false h2]; simp)]; simp : M1.nameB s = false)
          clear hall
          go_wp2
          go_ret
          exact ⟨by rw [HQ.out]; rfl, rfl⟩
      · have HQ : Hid (M1.nameB s = false) := (by unfold M1.nameB; rw [M1.allB_no hlt (by unfold M1.letB; rw [decide_eq_false h1]; simp)]; simp : M1.nameB s = false)
        clear hall
        go_wp2
        go_ret
        exact ⟨by rw [HQ.out]; rfl, rfl⟩
    · have HQ : Hid (M1.nameB s = (decide (1 ≤ s.size) && decide (s.size ≤ 12))) := (by unfold M1.nameB; rw [M1.allB_yes fun j hj => hall.out j hj (by omega)]; simp : M1.nameB s = (decide (1 ≤ s.size) && decide (s.size ≤ 12)))
      clear hall
      by_cases h3 : 1 ≤ s.size
      · by_cases h4 : s.size ≤ 12
        · go_wp2
          go_ret
          exact ⟨by rw [HQ.out]; simp [h3, h4]; omega, rfl⟩
        · go_wp2
          go_ret
          exact ⟨by rw [HQ.out]; simp [h3, h4]; omega, rfl⟩
      · go_wp2
        go_ret
        exact ⟨by rw [HQ.out]; simp [h3], rfl⟩

set_option maxHeartbeats 1000000 in
theorem nameOk_any (s : ByteArray) (w : World) (hs : s.size ≤ maxLen) :
    Calls Tryz.prog 170 #[.string s] w fun e w' => e = .returned (.bool (M1.nameB s)) ∧ w' = w := by
  unfold maxLen at hs
  by_cases h3 : s.size = 0
  · have HQ : Hid (M1.nameB s = false) := (by unfold M1.nameB; simp [h3] : M1.nameB s = false)
    have h5 : ((s.size : Int) == 0) = true := by simp [h3]
    clear h3
    go_enter Tryz.func170, Tryz.ntmps170
    go_wp2
    go_ret
    exact ⟨by rw [HQ.out]; rfl, rfl⟩
  · have h5 : ((s.size : Int) == 0) = false := by simp [h3]
    by_cases h4 : 12 < s.size
    · have HQ : Hid (M1.nameB s = false) := (by unfold M1.nameB; simp; intro _ h; omega : M1.nameB s = false)
      go_enter Tryz.func170, Tryz.ntmps170
      go_wp2
      go_ret
      exact ⟨by rw [HQ.out]; rfl, rfl⟩
    · go_enter Tryz.func170, Tryz.ntmps170
      go_wp2
      go_loop [3] (fun i => ∃ k : Nat, k ≤ s.size ∧ i = .int .i64 k ∧ Hid (∀ j (hj : j < s.size), j < k → M1.letB s[j] = true)) (fun i => s.size - (intOf i).toNat)
      case atStart => exact ⟨0, Nat.zero_le _, rfl, fun j _ hj => absurd hj (Nat.not_lt_zero _)⟩
      case round =>
        obtain ⟨k, hk, rfl, hall⟩ := hrel
        by_cases hlt : k < s.size
        · by_cases h1 : 97 ≤ (s[k].toNat : Int)
          · by_cases h2 : (s[k].toNat : Int) ≤ 122
            · have HQ : Hid (∀ j (hj : j < s.size), j < k + 1 → M1.letB s[j] = true) := fun j hj hjk => by
                by_cases e : j = k
                · subst e; simp [M1.letB, h1, h2]
                · exact hall.out j hj (by omega)
              clear hall
              go_wp2
              go_round
              case rel => exact ⟨k + 1, by omega, by go_num, HQ⟩
              case measure => simp [intOf]; omega
            · have HQ : Hid (M1.nameB s = false) := (by unfold M1.nameB; rw [M1.allB_no hlt (by unfold M1.letB; rw [decide_eq_false h2]; simp)]; simp : M1.nameB s = false)
              clear hall
              go_wp2
              go_ret
              exact ⟨by rw [HQ.out]; rfl, rfl⟩
          · have HQ : Hid (M1.nameB s = false) := (by unfold M1.nameB; rw [M1.allB_no hlt (by unfold M1.letB; rw [decide_eq_false h1]; simp)]; simp : M1.nameB s = false)
            clear hall
            go_wp2
            go_ret
            exact ⟨by rw [HQ.out]; rfl, rfl⟩
        · have HQ : Hid (M1.nameB s = true) := (by unfold M1.nameB; rw [M1.allB_yes fun j hj => hall.out j hj (by omega)]; simp; omega : M1.nameB s = true)
          clear hall
          go_wp2
          go_ret
          exact ⟨by rw [HQ.out]; rfl, rfl⟩

end Go.Proofs.YtbhidjagmonnaaaGreatDoor

namespace Go.Proofs.YtbhidjagmonnaaaGreatDoor
open Go.ChangeShapes Go.WideShapes Go.ChangeAt Go.RowKit

set_option maxHeartbeats 1000000 in
theorem spanOk_spec (a b c d : Int) (s : ByteArray) (w : World) (hs : s.size ≤ maxLen) :
    Calls Tryz.prog 56 #[.agg #[.int .i64 a, .int .i64 b, .string s, .int .i64 c, .int .i64 d]] w fun e w' => e = .returned (.bool (M1.spanB a b s c d)) ∧ Below w.heap.size w w' := by
  unfold M1.spanB
  go_enter Tryz.func56, Tryz.ntmps56
  go_wp2_with (first | (go_at_call 55; refine (l1In_any _ _ _ _).mono ?_; rintro e w' ⟨rfl, rfl⟩) | (go_at_call 78; refine (l2Name_any _ _ hs).mono ?_; rintro e w' ⟨rfl, rfl⟩))
  all_goals (go_ret)
  all_goals (exact ⟨by simp_all, (Below.refl _ _).alloc (Nat.le_refl _) _⟩)

set_option maxHeartbeats 1000000 in
theorem spanOk_impl (a b c d : Int) (s : ByteArray) (w : World) (hs : s.size ≤ maxLen) :
    Calls Tryz.prog 169 #[.agg #[.int .i64 a, .int .i64 b, .string s, .int .i64 c, .int .i64 d]] w fun e w' => e = .returned (.bool (M1.spanB a b s c d)) ∧ Below w.heap.size w w' := by
  rw [M1.spanB_eq]
  go_enter Tryz.func169, Tryz.ntmps169
  go_wp2_with (first | (go_at_call 67; refine (inRange_any _ _ _ _).mono ?_; rintro e w' ⟨rfl, rfl⟩) | (go_at_call 87; refine (timeOk_any _ _).mono ?_; rintro e w' ⟨rfl, rfl⟩) | (go_at_call 170; refine (nameOk_any _ _ hs).mono ?_; rintro e w' ⟨rfl, rfl⟩))
  all_goals (go_ret)
  all_goals (exact ⟨by simp_all, (Below.refl _ _).alloc (Nat.le_refl _) _⟩)

end Go.Proofs.YtbhidjagmonnaaaGreatDoor
