/-
  Texts of one proof, joined: Rd1.
-/
import Derived.Test.YtbhidjagmonnaaaGreatDoorZSegments06
import Derived.Test.YtbhidjagmonnaaaGreatDoorZSegments09
namespace Go.Proofs.YtbhidjagmonnaaaGreatDoor
open Go.ChangeShapes Go.WideShapes Go.ChangeAt Go.RowKit
set_option linter.unusedSimpArgs false
set_option linter.unusedVariables false

set_option maxHeartbeats 4000000 in
theorem readDecimal_any (s : ByteArray) (w : World) (hs : s.size ≤ maxLen) :
    Calls Tryz.prog 113 #[.string s] w fun e w' => e = .returned (.tuple #[.int .i64 (M1.numV s), .bool (M1.numB s.data.toList)]) ∧ w' = w := by
  unfold maxLen at hs
  by_cases c1 : s.size = 0
  · have HN : Hid (M1.numB s.data.toList = false) := (M1.num_none c1 : _ = _)
    have HV : Hid (M1.numV s = 0) := (by unfold M1.numV; rw [HN.out]; rfl : _ = _)
    have h5 : ((s.size : Int) == 0) = true := by simp [c1]
    have h7 : (s.size : Int) < 1 := by omega
    clear c1
    go_enter Tryz.func113, Tryz.ntmps113
    go_wp2
    refine bodyPost_ret (v := .tuple #[.int .i64 0, .bool false]) (by simp [results, Tryz.results113, go_sem]) rfl ?_
    exact ⟨by rw [HV.out, HN.out], rfl⟩
  have h5 : ((s.size : Int) == 0) = false := by simp [c1]
  by_cases c2 : 10 < s.size
  · have HN : Hid (M1.numB s.data.toList = false) := (M1.num_long c2 : _ = _)
    have HV : Hid (M1.numV s = 0) := (by unfold M1.numV; rw [HN.out]; rfl : _ = _)
    go_enter Tryz.func113, Tryz.ntmps113
    go_wp2
    refine bodyPost_ret (v := .tuple #[.int .i64 0, .bool false]) (by simp [results, Tryz.results113, go_sem]) rfl ?_
    exact ⟨by rw [HV.out, HN.out], rfl⟩
  have z0 : 0 < s.size := by omega
  by_cases c3 : 1 < s.size
  · by_cases c4 : s[0].toNat = 48
    · have HN : Hid (M1.numB s.data.toList = false) := (M1.num_nought c3 c4 : _ = _)
      have HV : Hid (M1.numV s = 0) := (by unfold M1.numV; rw [HN.out]; rfl : _ = _)
      have h6 : ((s[0].toNat : Int) == 48) = true := by simp [c4]
      clear c4
      go_enter Tryz.func113, Tryz.ntmps113
      go_wp2
      refine bodyPost_ret (v := .tuple #[.int .i64 0, .bool false]) (by simp [results, Tryz.results113, go_sem]) rfl ?_
      exact ⟨by rw [HV.out, HN.out], rfl⟩
    · have h6 : ((s[0].toNat : Int) == 48) = false := by simp; omega
      have h3 : Hid (s.size = 1 ∨ ¬ ∃ h : 0 < s.size, s[0].toNat = 48) := (Or.inr fun ⟨_, e⟩ => c4 e : _ ∨ _)
      clear c4
      go_enter Tryz.func113, Tryz.ntmps113
      go_wp2
      go_loop [4, 5] (fun nv iv => ∃ (k n : Nat), k ≤ s.size ∧ iv = .int .i64 k ∧ nv = .int .i64 n ∧ n ≤ 10000000000 ∧ Hid (M1.valL (s.data.toList.take k) = n) ∧ Hid (∀ j (hj : j < s.size), j < k → M1.digB s[j] = true)) (fun _ iv => s.size - (intOf iv).toNat)
      case atStart => exact ⟨0, 0, Nat.zero_le _, rfl, rfl, by omega, rfl, fun j _ hj => absurd hj (Nat.not_lt_zero _)⟩
      case round =>
        obtain ⟨k, n, hk, rfl, rfl, hn, hv, hall⟩ := hrel
        by_cases hlt : k < s.size
        · by_cases h1 : 48 ≤ (s[k].toNat : Int)
          · by_cases h2 : (s[k].toNat : Int) ≤ 57
            · have HQ : Hid (∀ j (hj : j < s.size), j < k + 1 → M1.digB s[j] = true) := fun j hj hjk => by
                by_cases e : j = k
                · subst e; exact M1.digB_iff.2 ⟨by omega, by omega⟩
                · exact hall.out j hj (by omega)
              have HS : Hid (M1.valL (s.data.toList.take (k + 1)) = n * 10 + (s[k].toNat - 48)) := (by rw [M1.val_step hlt, hv.out] : _ = _)
              have hb : n * 10 + (s[k].toNat - 48) ≤ 10000000000 := by
                have q := M1.val_lt (k + 1) (by omega) HQ.out
                rw [HS.out] at q
                have q2 : 10 ^ (k + 1) ≤ 10 ^ 10 := Nat.pow_le_pow_right (by omega) (by omega)
                omega
              obtain ⟨d, hd⟩ : ∃ d : Nat, Hid (s[k].toNat = d + 48) := ⟨s[k].toNat - 48, (by omega : _ = _)⟩
              have hd9 : d ≤ 9 := by have := hd.out; omega
              have hb2 : n * 10 + d ≤ 10000000000 := by have := hd.out; omega
              have HS2 : Hid (M1.valL (s.data.toList.take (k + 1)) = n * 10 + d) := (by rw [HS.out, hd.out]; omega : _ = _)
              have hsub : (s[k].toNat : Int) - 48 = (d : Int) := by have := hd.out; omega
              clear hall
              go_wp2
              exact ⟨⟨k + 1, n * 10 + d, by omega, by go_num, by first | go_num | simp, hb2, HS2, HQ⟩, by simp [intOf]; omega⟩
            · have HN : Hid (M1.numB s.data.toList = false) := (M1.num_bad hlt (by unfold M1.digB; simp; intro _; omega) : _ = _)
              have HV : Hid (M1.numV s = 0) := (by unfold M1.numV; rw [HN.out]; rfl : _ = _)
              clear hall
              go_wp2
              refine bodyPost_ret (v := .tuple #[.int .i64 0, .bool false]) (by simp [results, Tryz.results113, go_sem]) rfl ?_
              exact ⟨by rw [HV.out, HN.out], rfl⟩
          · have HN : Hid (M1.numB s.data.toList = false) := (M1.num_bad hlt (by unfold M1.digB; simp; intro _; omega) : _ = _)
            have HV : Hid (M1.numV s = 0) := (by unfold M1.numV; rw [HN.out]; rfl : _ = _)
            clear hall
            go_wp2
            refine bodyPost_ret (v := .tuple #[.int .i64 0, .bool false]) (by simp [results, Tryz.results113, go_sem]) rfl ?_
            exact ⟨by rw [HV.out, HN.out], rfl⟩
        · have HN : Hid (M1.numB s.data.toList = true) := M1.num_good (by omega) (by omega) h3.out fun j hj => hall.out j hj (by omega)
          have HV : Hid (M1.numV s = (n : Int)) := (by unfold M1.numV; rw [HN.out, ← hv.out, M1.val_all s (show k = s.size by omega)]; rfl : _ = _)
          clear hall
          go_wp2
          refine bodyPost_ret (v := .tuple #[.int .i64 (n : Int), .bool true]) (by simp [results, Tryz.results113, go_sem]) rfl ?_
          exact ⟨by rw [HV.out, HN.out], rfl⟩
  · have h3 : Hid (s.size = 1 ∨ ¬ ∃ h : 0 < s.size, s[0].toNat = 48) := (Or.inl (by omega) : _ ∨ _)
    go_enter Tryz.func113, Tryz.ntmps113
    go_wp2
    go_loop [4, 5] (fun nv iv => ∃ (k n : Nat), k ≤ s.size ∧ iv = .int .i64 k ∧ nv = .int .i64 n ∧ n ≤ 10000000000 ∧ Hid (M1.valL (s.data.toList.take k) = n) ∧ Hid (∀ j (hj : j < s.size), j < k → M1.digB s[j] = true)) (fun _ iv => s.size - (intOf iv).toNat)
    case atStart => exact ⟨0, 0, Nat.zero_le _, rfl, rfl, by omega, rfl, fun j _ hj => absurd hj (Nat.not_lt_zero _)⟩
    case round =>
      obtain ⟨k, n, hk, rfl, rfl, hn, hv, hall⟩ := hrel
      by_cases hlt : k < s.size
      · by_cases h1 : 48 ≤ (s[k].toNat : Int)
        · by_cases h2 : (s[k].toNat : Int) ≤ 57
          · have HQ : Hid (∀ j (hj : j < s.size), j < k + 1 → M1.digB s[j] = true) := fun j hj hjk => by
              by_cases e : j = k
              · subst e; exact M1.digB_iff.2 ⟨by omega, by omega⟩
              · exact hall.out j hj (by omega)
            have HS : Hid (M1.valL (s.data.toList.take (k + 1)) = n * 10 + (s[k].toNat - 48)) := (by rw [M1.val_step hlt, hv.out] : _ = _)
            have hb : n * 10 + (s[k].toNat - 48) ≤ 10000000000 := by
              have q := M1.val_lt (k + 1) (by omega) HQ.out
              rw [HS.out] at q
              have q2 : 10 ^ (k + 1) ≤ 10 ^ 10 := Nat.pow_le_pow_right (by omega) (by omega)
              omega
            obtain ⟨d, hd⟩ : ∃ d : Nat, Hid (s[k].toNat = d + 48) := ⟨s[k].toNat - 48, (by omega : _ = _)⟩
            have hd9 : d ≤ 9 := by have := hd.out; omega
            have hb2 : n * 10 + d ≤ 10000000000 := by have := hd.out; omega
            have HS2 : Hid (M1.valL (s.data.toList.take (k + 1)) = n * 10 + d) := (by rw [HS.out, hd.out]; omega : _ = _)
            have hsub : (s[k].toNat : Int) - 48 = (d : Int) := by have := hd.out; omega
            clear hall
            go_wp2
            exact ⟨⟨k + 1, n * 10 + d, by omega, by go_num, by first | go_num | simp, hb2, HS2, HQ⟩, by simp [intOf]; omega⟩
          · have HN : Hid (M1.numB s.data.toList = false) := (M1.num_bad hlt (by unfold M1.digB; simp; intro _; omega) : _ = _)
            have HV : Hid (M1.numV s = 0) := (by unfold M1.numV; rw [HN.out]; rfl : _ = _)
            clear hall
            go_wp2
            refine bodyPost_ret (v := .tuple #[.int .i64 0, .bool false]) (by simp [results, Tryz.results113, go_sem]) rfl ?_
            exact ⟨by rw [HV.out, HN.out], rfl⟩
        · have HN : Hid (M1.numB s.data.toList = false) := (M1.num_bad hlt (by unfold M1.digB; simp; intro _; omega) : _ = _)
          have HV : Hid (M1.numV s = 0) := (by unfold M1.numV; rw [HN.out]; rfl : _ = _)
          clear hall
          go_wp2
          refine bodyPost_ret (v := .tuple #[.int .i64 0, .bool false]) (by simp [results, Tryz.results113, go_sem]) rfl ?_
          exact ⟨by rw [HV.out, HN.out], rfl⟩
      · have HN : Hid (M1.numB s.data.toList = true) := M1.num_good (by omega) (by omega) h3.out fun j hj => hall.out j hj (by omega)
        have HV : Hid (M1.numV s = (n : Int)) := (by unfold M1.numV; rw [HN.out, ← hv.out, M1.val_all s (show k = s.size by omega)]; rfl : _ = _)
        clear hall
        go_wp2
        refine bodyPost_ret (v := .tuple #[.int .i64 (n : Int), .bool true]) (by simp [results, Tryz.results113, go_sem]) rfl ?_
        exact ⟨by rw [HV.out, HN.out], rfl⟩

set_option maxHeartbeats 4000000 in
theorem l1Int_any (s : ByteArray) (w : World) (hs : s.size ≤ maxLen) :
    Calls Tryz.prog 86 #[.string s] w fun e w' => e = .returned (.tuple #[.int .i64 (M1.numV s), .bool (M1.numB s.data.toList)]) ∧ w' = w := by
  unfold maxLen at hs
  by_cases c1 : s.size = 0
  · have HN : Hid (M1.numB s.data.toList = false) := (M1.num_none c1 : _ = _)
    have HV : Hid (M1.numV s = 0) := (by unfold M1.numV; rw [HN.out]; rfl : _ = _)
    have h5 : ((s.size : Int) == 0) = true := by simp [c1]
    have h7 : (s.size : Int) < 1 := by omega
    clear c1
    go_enter Tryz.func86, Tryz.ntmps86
    go_wp2
    refine bodyPost_ret (v := .tuple #[.int .i64 0, .bool false]) (by simp [results, Tryz.results86, go_sem]) rfl ?_
    exact ⟨by rw [HV.out, HN.out], rfl⟩
  have h5 : ((s.size : Int) == 0) = false := by simp [c1]
  by_cases c2 : 10 < s.size
  · have HN : Hid (M1.numB s.data.toList = false) := (M1.num_long c2 : _ = _)
    have HV : Hid (M1.numV s = 0) := (by unfold M1.numV; rw [HN.out]; rfl : _ = _)
    go_enter Tryz.func86, Tryz.ntmps86
    go_wp2
    refine bodyPost_ret (v := .tuple #[.int .i64 0, .bool false]) (by simp [results, Tryz.results86, go_sem]) rfl ?_
    exact ⟨by rw [HV.out, HN.out], rfl⟩
  have z0 : 0 < s.size := by omega
  by_cases c3 : 1 < s.size
  · by_cases c4 : s[0].toNat = 48
    · have HN : Hid (M1.numB s.data.toList = false) := (M1.num_nought c3 c4 : _ = _)
      have HV : Hid (M1.numV s = 0) := (by unfold M1.numV; rw [HN.out]; rfl : _ = _)
      have h6 : ((s[0].toNat : Int) == 48) = true := by simp [c4]
      clear c4
      go_enter Tryz.func86, Tryz.ntmps86
      go_wp2
      refine bodyPost_ret (v := .tuple #[.int .i64 0, .bool false]) (by simp [results, Tryz.results86, go_sem]) rfl ?_
      exact ⟨by rw [HV.out, HN.out], rfl⟩
    · have h6 : ((s[0].toNat : Int) == 48) = false := by simp; omega
      have h3 : Hid (s.size = 1 ∨ ¬ ∃ h : 0 < s.size, s[0].toNat = 48) := (Or.inr fun ⟨_, e⟩ => c4 e : _ ∨ _)
      clear c4
      go_enter Tryz.func86, Tryz.ntmps86
      go_wp2
      go_loop [4, 5] (fun nv iv => ∃ (k n : Nat), k ≤ s.size ∧ iv = .int .i64 k ∧ nv = .int .i64 n ∧ n ≤ 10000000000 ∧ Hid (M1.valL (s.data.toList.take k) = n) ∧ Hid (∀ j (hj : j < s.size), j < k → M1.digB s[j] = true)) (fun _ iv => s.size - (intOf iv).toNat)
      case atStart => exact ⟨0, 0, Nat.zero_le _, rfl, rfl, by omega, rfl, fun j _ hj => absurd hj (Nat.not_lt_zero _)⟩
      case round =>
        obtain ⟨k, n, hk, rfl, rfl, hn, hv, hall⟩ := hrel
        by_cases hlt : k < s.size
        · by_cases h1 : 48 ≤ (s[k].toNat : Int)
          · by_cases h2 : (s[k].toNat : Int) ≤ 57
            · have HQ : Hid (∀ j (hj : j < s.size), j < k + 1 → M1.digB s[j] = true) := fun j hj hjk => by
                by_cases e : j = k
                · subst e; exact M1.digB_iff.2 ⟨by omega, by omega⟩
                · exact hall.out j hj (by omega)
              have HS : Hid (M1.valL (s.data.toList.take (k + 1)) = n * 10 + (s[k].toNat - 48)) := (by rw [M1.val_step hlt, hv.out] : _ = _)
              have hb : n * 10 + (s[k].toNat - 48) ≤ 10000000000 := by
                have q := M1.val_lt (k + 1) (by omega) HQ.out
                rw [HS.out] at q
                have q2 : 10 ^ (k + 1) ≤ 10 ^ 10 := Nat.pow_le_pow_right (by omega) (by omega)
                omega
              obtain ⟨d, hd⟩ : ∃ d : Nat, Hid (s[k].toNat = d + 48) := ⟨s[k].toNat - 48, (by omega : _ = _)⟩
              have hd9 : d ≤ 9 := by have := hd.out; omega
              have hb2 : n * 10 + d ≤ 10000000000 := by have := hd.out; omega
              have HS2 : Hid (M1.valL (s.data.toList.take (k + 1)) = n * 10 + d) := (by rw [HS.out, hd.out]; omega : _ = _)
              have hsub : (s[k].toNat : Int) - 48 = (d : Int) := by have := hd.out; omega
              clear hall
              go_wp2
              exact ⟨⟨k + 1, n * 10 + d, by omega, by go_num, by first | go_num | simp, hb2, HS2, HQ⟩, by simp [intOf]; omega⟩
            · have HN : Hid (M1.numB s.data.toList = false) := (M1.num_bad hlt (by unfold M1.digB; simp; intro _; omega) : _ = _)
              have HV : Hid (M1.numV s = 0) := (by unfold M1.numV; rw [HN.out]; rfl : _ = _)
              clear hall
              go_wp2
              refine bodyPost_ret (v := .tuple #[.int .i64 0, .bool false]) (by simp [results, Tryz.results86, go_sem]) rfl ?_
              exact ⟨by rw [HV.out, HN.out], rfl⟩
          · have HN : Hid (M1.numB s.data.toList = false) := (M1.num_bad hlt (by unfold M1.digB; simp; intro _; omega) : _ = _)
            have HV : Hid (M1.numV s = 0) := (by unfold M1.numV; rw [HN.out]; rfl : _ = _)
            clear hall
            go_wp2
            refine bodyPost_ret (v := .tuple #[.int .i64 0, .bool false]) (by simp [results, Tryz.results86, go_sem]) rfl ?_
            exact ⟨by rw [HV.out, HN.out], rfl⟩
        · have HN : Hid (M1.numB s.data.toList = true) := M1.num_good (by omega) (by omega) h3.out fun j hj => hall.out j hj (by omega)
          have HV : Hid (M1.numV s = (n : Int)) := (by unfold M1.numV; rw [HN.out, ← hv.out, M1.val_all s (show k = s.size by omega)]; rfl : _ = _)
          clear hall
          go_wp2
          refine bodyPost_ret (v := .tuple #[.int .i64 (n : Int), .bool true]) (by simp [results, Tryz.results86, go_sem]) rfl ?_
          exact ⟨by rw [HV.out, HN.out], rfl⟩
  · have h3 : Hid (s.size = 1 ∨ ¬ ∃ h : 0 < s.size, s[0].toNat = 48) := (Or.inl (by omega) : _ ∨ _)
    by_cases c5 : s[0].toNat = 48
    · have h6 : ((s[0].toNat : Int) == 48) = true := by simp [c5]
      clear c5
      go_enter Tryz.func86, Tryz.ntmps86
      go_wp2
      go_loop [4, 5] (fun nv iv => ∃ (k n : Nat), k ≤ s.size ∧ iv = .int .i64 k ∧ nv = .int .i64 n ∧ n ≤ 10000000000 ∧ Hid (M1.valL (s.data.toList.take k) = n) ∧ Hid (∀ j (hj : j < s.size), j < k → M1.digB s[j] = true)) (fun _ iv => s.size - (intOf iv).toNat)
      case atStart => exact ⟨0, 0, Nat.zero_le _, rfl, rfl, by omega, rfl, fun j _ hj => absurd hj (Nat.not_lt_zero _)⟩
      case round =>
        obtain ⟨k, n, hk, rfl, rfl, hn, hv, hall⟩ := hrel
        by_cases hlt : k < s.size
        · by_cases h1 : 48 ≤ (s[k].toNat : Int)
          · by_cases h2 : (s[k].toNat : Int) ≤ 57
            · have HQ : Hid (∀ j (hj : j < s.size), j < k + 1 → M1.digB s[j] = true) := fun j hj hjk => by
                by_cases e : j = k
                · subst e; exact M1.digB_iff.2 ⟨by omega, by omega⟩
                · exact hall.out j hj (by omega)
              have HS : Hid (M1.valL (s.data.toList.take (k + 1)) = n * 10 + (s[k].toNat - 48)) := (by rw [M1.val_step hlt, hv.out] : _ = _)
              have hb : n * 10 + (s[k].toNat - 48) ≤ 10000000000 := by
                have q := M1.val_lt (k + 1) (by omega) HQ.out
                rw [HS.out] at q
                have q2 : 10 ^ (k + 1) ≤ 10 ^ 10 := Nat.pow_le_pow_right (by omega) (by omega)
                omega
              obtain ⟨d, hd⟩ : ∃ d : Nat, Hid (s[k].toNat = d + 48) := ⟨s[k].toNat - 48, (by omega : _ = _)⟩
              have hd9 : d ≤ 9 := by have := hd.out; omega
              have hb2 : n * 10 + d ≤ 10000000000 := by have := hd.out; omega
              have HS2 : Hid (M1.valL (s.data.toList.take (k + 1)) = n * 10 + d) := (by rw [HS.out, hd.out]; omega : _ = _)
              have hsub : (s[k].toNat : Int) - 48 = (d : Int) := by have := hd.out; omega
              clear hall
              go_wp2
              exact ⟨⟨k + 1, n * 10 + d, by omega, by go_num, by first | go_num | simp, hb2, HS2, HQ⟩, by simp [intOf]; omega⟩
            · have HN : Hid (M1.numB s.data.toList = false) := (M1.num_bad hlt (by unfold M1.digB; simp; intro _; omega) : _ = _)
              have HV : Hid (M1.numV s = 0) := (by unfold M1.numV; rw [HN.out]; rfl : _ = _)
              clear hall
              go_wp2
              refine bodyPost_ret (v := .tuple #[.int .i64 0, .bool false]) (by simp [results, Tryz.results86, go_sem]) rfl ?_
              exact ⟨by rw [HV.out, HN.out], rfl⟩
          · have HN : Hid (M1.numB s.data.toList = false) := (M1.num_bad hlt (by unfold M1.digB; simp; intro _; omega) : _ = _)
            have HV : Hid (M1.numV s = 0) := (by unfold M1.numV; rw [HN.out]; rfl : _ = _)
            clear hall
            go_wp2
            refine bodyPost_ret (v := .tuple #[.int .i64 0, .bool false]) (by simp [results, Tryz.results86, go_sem]) rfl ?_
            exact ⟨by rw [HV.out, HN.out], rfl⟩
        · have HN : Hid (M1.numB s.data.toList = true) := M1.num_good (by omega) (by omega) h3.out fun j hj => hall.out j hj (by omega)
          have HV : Hid (M1.numV s = (n : Int)) := (by unfold M1.numV; rw [HN.out, ← hv.out, M1.val_all s (show k = s.size by omega)]; rfl : _ = _)
          clear hall
          go_wp2
          refine bodyPost_ret (v := .tuple #[.int .i64 (n : Int), .bool true]) (by simp [results, Tryz.results86, go_sem]) rfl ?_
          exact ⟨by rw [HV.out, HN.out], rfl⟩
    · have h6 : ((s[0].toNat : Int) == 48) = false := by simp; omega
      clear c5
      go_enter Tryz.func86, Tryz.ntmps86
      go_wp2
      go_loop [4, 5] (fun nv iv => ∃ (k n : Nat), k ≤ s.size ∧ iv = .int .i64 k ∧ nv = .int .i64 n ∧ n ≤ 10000000000 ∧ Hid (M1.valL (s.data.toList.take k) = n) ∧ Hid (∀ j (hj : j < s.size), j < k → M1.digB s[j] = true)) (fun _ iv => s.size - (intOf iv).toNat)
      case atStart => exact ⟨0, 0, Nat.zero_le _, rfl, rfl, by omega, rfl, fun j _ hj => absurd hj (Nat.not_lt_zero _)⟩
      case round =>
        obtain ⟨k, n, hk, rfl, rfl, hn, hv, hall⟩ := hrel
        by_cases hlt : k < s.size
        · by_cases h1 : 48 ≤ (s[k].toNat : Int)
          · by_cases h2 : (s[k].toNat : Int) ≤ 57
            · have HQ : Hid (∀ j (hj : j < s.size), j < k + 1 → M1.digB s[j] = true) := fun j hj hjk => by
                by_cases e : j = k
                · subst e; exact M1.digB_iff.2 ⟨by omega, by omega⟩
                · exact hall.out j hj (by omega)
              have HS : Hid (M1.valL (s.data.toList.take (k + 1)) = n * 10 + (s[k].toNat - 48)) := (by rw [M1.val_step hlt, hv.out] : _ = _)
              have hb : n * 10 + (s[k].toNat - 48) ≤ 10000000000 := by
                have q := M1.val_lt (k + 1) (by omega) HQ.out
                rw [HS.out] at q
                have q2 : 10 ^ (k + 1) ≤ 10 ^ 10 := Nat.pow_le_pow_right (by omega) (by omega)
                omega
              obtain ⟨d, hd⟩ : ∃ d : Nat, Hid (s[k].toNat = d + 48) := ⟨s[k].toNat - 48, (by omega : _ = _)⟩
              have hd9 : d ≤ 9 := by have := hd.out; omega
              have hb2 : n * 10 + d ≤ 10000000000 := by have := hd.out; omega
              have HS2 : Hid (M1.valL (s.data.toList.take (k + 1)) = n * 10 + d) := (by rw [HS.out, hd.out]; omega : _ = _)
              have hsub : (s[k].toNat : Int) - 48 = (d : Int) := by have := hd.out; omega
              clear hall
              go_wp2
              exact ⟨⟨k + 1, n * 10 + d, by omega, by go_num, by first | go_num | simp, hb2, HS2, HQ⟩, by simp [intOf]; omega⟩
            · have HN : Hid (M1.numB s.data.toList = false) := (M1.num_bad hlt (by unfold M1.digB; simp; intro _; omega) : _ = _)
              have HV : Hid (M1.numV s = 0) := (by unfold M1.numV; rw [HN.out]; rfl : _ = _)
              clear hall
              go_wp2
              refine bodyPost_ret (v := .tuple #[.int .i64 0, .bool false]) (by simp [results, Tryz.results86, go_sem]) rfl ?_
              exact ⟨by rw [HV.out, HN.out], rfl⟩
          · have HN : Hid (M1.numB s.data.toList = false) := (M1.num_bad hlt (by unfold M1.digB; simp; intro _; omega) : _ = _)
            have HV : Hid (M1.numV s = 0) := (by unfold M1.numV; rw [HN.out]; rfl : _ = _)
            clear hall
            go_wp2
            refine bodyPost_ret (v := .tuple #[.int .i64 0, .bool false]) (by simp [results, Tryz.results86, go_sem]) rfl ?_
            exact ⟨by rw [HV.out, HN.out], rfl⟩
        · have HN : Hid (M1.numB s.data.toList = true) := M1.num_good (by omega) (by omega) h3.out fun j hj => hall.out j hj (by omega)
          have HV : Hid (M1.numV s = (n : Int)) := (by unfold M1.numV; rw [HN.out, ← hv.out, M1.val_all s (show k = s.size by omega)]; rfl : _ = _)
          clear hall
          go_wp2
          refine bodyPost_ret (v := .tuple #[.int .i64 (n : Int), .bool true]) (by simp [results, Tryz.results86, go_sem]) rfl ?_
          exact ⟨by rw [HV.out, HN.out], rfl⟩
end Go.Proofs.YtbhidjagmonnaaaGreatDoor
