/-
  Contracts of the functions on names and spans.
-/
import Derived.Test.YtjgcjopijblpkaaDoorWalk1
import Derived.Test.YtjgcjopijblpkaaDoorMath3
namespace Go.Proofs.YtjgcjopijblpkaaDoor
open Go.ChangeShapes Go.WideShapes Go.ChangeAt Go.RowKit

set_option maxHeartbeats 1000000 in
theorem l2Name_any (s : ByteArray) (w : World) (hs : s.size ≤ maxLen) :
    Calls Tryd.prog 82 #[.string s] w fun e w' => e = .returned (.bool (M1.nameB s)) ∧ w' = w := by
  unfold maxLen at hs
  go_enter Tryd.func82, Tryd.ntmps82
  go_wp2
  go_loop [3] (fun i => ∃ k : Nat, k ≤ s.size ∧ i = .int .i64 k ∧ Hid (∀ j (hj : j < s.size), j < k → M1.letB s[j] = true)) (fun i => s.size - (intOf i).toNat)
  case atStart => exact ⟨0, Nat.zero_le _, rfl, fun j _ hj => absurd hj (Nat.not_lt_zero _)⟩
  case round =>
    obtain ⟨k, hk, rfl, hall⟩ := hrel
    by_cases hlt : k < s.size
    · by_cases h1 : 97 ≤ (s[k].toNat : Int)
      · by_cases h2 : (s[k].toNat : Int) ≤ 122
        · have HQ : Hid (∀ j (hj : j < s.size), j < k + 1 → M1.letB s[j] = true) := fun j hj hjk => by
            by_cases e : j = k
            · subst e; simp [M1.letB, h1, h2]
            · exact hall.out j hj (by omega)
          clear hall
          go_wp2
          go_round
          case rel => exact ⟨k + 1, by omega, by go_num, HQ⟩
          case measure => simp [intOf]; omega
        · have HQ : Hid (M1.nameB s = false) := (by unfold M1.nameB; rw [M1.allB_no hlt (by unfold M1.letB; rw [decide_eq_false h2]; simp)]; simp : M1.nameB s = false)
          clear hall
          go_wp2
          go_ret
          exact ⟨by rw [HQ.out]; rfl, rfl⟩
      · have HQ : Hid (M1.nameB s = false) := (by unfold M1.nameB; rw [M1.allB_no hlt (by unfold M1.letB; rw [decide_eq_false h1]; simp)]; simp : M1.nameB s = false)
        clear hall
        go_wp2
        go_ret
        exact ⟨by rw [HQ.out]; rfl, rfl⟩
    · have HQ : Hid (M1.nameB s = (decide (1 ≤ s.size) && decide (s.size ≤ 12))) := (by unfold M1.nameB; rw [M1.allB_yes fun j hj => hall.out j hj (by omega)]; simp : M1.nameB s = (decide (1 ≤ s.size) && decide (s.size ≤ 12)))
      clear hall
      by_cases h3 : 1 ≤ s.size
      · by_cases h4 : s.size ≤ 12
        · go_wp2
          go_ret
          exact ⟨by rw [HQ.out]; simp [h3, h4]; omega, rfl⟩
        · go_wp2
          go_ret
          exact ⟨by rw [HQ.out]; simp [h3, h4]; omega, rfl⟩
      · go_wp2
        go_ret
        exact ⟨by rw [HQ.out]; simp [h3], rfl⟩

set_option maxHeartbeats 1000000 in
theorem nameOk_any (s : ByteArray) (w : World) (hs : s.size ≤ maxLen) :
    Calls Tryd.prog 128 #[.string s] w fun e w' => e = .returned (.bool (M1.nameB s)) ∧ w' = w := by
  unfold maxLen at hs
  by_cases h3 : s.size = 0
  · have HQ : Hid (M1.nameB s = false) := (by unfold M1.nameB; simp [h3] : M1.nameB s = false)
    have h5 : ((s.size : Int) == 0) = true := by simp [h3]
    clear h3
    go_enter Tryd.func128, Tryd.ntmps128
    go_wp2
    go_ret
    exact ⟨by rw [HQ.out]; rfl, rfl⟩
  · have h5 : ((s.size : Int) == 0) = false := by simp [h3]
    by_cases h4 : 12 < s.size
    · have HQ : Hid (M1.nameB s = false) := (by unfold M1.nameB; simp; intro _ h; omega : M1.nameB s = false)
      go_enter Tryd.func128, Tryd.ntmps128
      go_wp2
      go_ret
      exact ⟨by rw [HQ.out]; rfl, rfl⟩
    · go_enter Tryd.func128, Tryd.ntmps128
      go_wp2
      go_loop [3] (fun i => ∃ k : Nat, k ≤ s.size ∧ i = .int .i64 k ∧ Hid (∀ j (hj : j < s.size), j < k → M1.letB s[j] = true)) (fun i => s.size - (intOf i).toNat)
      case atStart => exact ⟨0, Nat.zero_le _, rfl, fun j _ hj => absurd hj (Nat.not_lt_zero _)⟩
      case round =>
        obtain ⟨k, hk, rfl, hall⟩ := hrel
        by_cases hlt : k < s.size
        · by_cases h1 : 97 ≤ (s[k].toNat : Int)
          · by_cases h2 : (s[k].toNat : Int) ≤ 122
            · have HQ : Hid (∀ j (hj : j < s.size), j < k + 1 → M1.letB s[j] = true) := fun j hj hjk => by
                by_cases e : j = k
                · subst e; simp [M1.letB, h1, h2]
                · exact hall.out j hj (by omega)
              clear hall
              go_wp2
              go_round
              case rel => exact ⟨k + 1, by omega, by go_num, HQ⟩
              case measure => simp [intOf]; omega
            · have HQ : Hid (M1.nameB s = false) := (by unfold M1.nameB; rw [M1.allB_no hlt (by unfold M1.letB; rw [decide_eq_false h2]; simp)]; simp : M1.nameB s = false)
              clear hall
              go_wp2
              go_ret
              exact ⟨by rw [HQ.out]; rfl, rfl⟩
          · have HQ : Hid (M1.nameB s = false) := (by unfold M1.nameB; rw [M1.allB_no hlt (by unfold M1.letB; rw [decide_eq_false h1]; simp)]; simp : M1.nameB s = false)
            clear hall
            go_wp2
            go_ret
            exact ⟨by rw [HQ.out]; rfl, rfl⟩
        · have HQ : Hid (M1.nameB s = true) := (by unfold M1.nameB; rw [M1.allB_yes fun j hj => hall.out j hj (by omega)]; simp; omega : M1.nameB s = true)
          clear hall
          go_wp2
          go_ret
          exact ⟨by rw [HQ.out]; rfl, rfl⟩

end Go.Proofs.YtjgcjopijblpkaaDoor
