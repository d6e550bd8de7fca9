/-
  Texts of one proof, joined: Tick.
-/
import Derived.Test.YtccendmoeelniaaGreatDoorZIssued03
namespace Go.Proofs.YtccendmoeelniaaGreatDoor
open Go.ChangeShapes Go.WideShapes Go.ChangeAt Go.RowKit
theorem ticked_spec (a b c now : Int) (w : World) :
    Calls Tryz.prog 95 #[.agg #[.int .i64 a, .int .i64 b, .int .i64 c], .int .i64 now] w fun e w' => e = .returned (.tuple #[.agg #[.int .i64 (M1.tickP a b c now).a, .int .i64 (M1.tickP a b c now).b, .int .i64 (M1.tickP a b c now).c], .bool (M1.tickP a b c now).ok]) ∧ Below w.heap.size w w' := by
  by_cases h1 : M1.stOk a b c = true
  · by_cases h2 : M1.inB now 0 1000000000 = true
    · have e1 : M1.tickP a b c now = M1.nextP a b c now := by simp [M1.tickP, h1, h2]
      rw [e1]; clear e1
      have hb := M1.stOk_true h1
      have hb2 : 0 ≤ b ∧ b ≤ 1000000 := by omega
      clear hb
      go_enter Tryz.func95, Tryz.ntmps95
      go_wp2_with fail
      refine (stampOk_spec _ _ _ _).mono ?_
      rintro e w1 ⟨rfl, hb1⟩
      have hB1 := hb1
      clear hb1
      obtain ⟨hc1, hf1⟩ := bcell hB1
      have hz1 := hB1.size
      (try simp [Nat.succ_le_iff] at hz1)
      have hz1_0 : w.heap.size < w1.heap.size := by omega
      go_wp2_with ((go_at_call 65; refine (l1In_any _ _ _ _).mono ?_; rintro e w' ⟨rfl, rfl⟩))
      refine (next_spec _ _ _ _ _ hb2).mono ?_
      rintro e w2 ⟨rfl, hb2⟩
      have hB2 := hB1.trans (hb2.mono hB1.size)
      obtain ⟨hc2, hf2⟩ := bcell hB2
      have hz2 := hB2.size
      (try simp [Nat.succ_le_iff] at hz2)
      have hz2_0 : w.heap.size < w2.heap.size := by omega
      clear hb2 hB1 hc1 hf1 hz1 hz1_0
      go_wp2_with fail
      refine bodyPost_ret (v := .tuple #[.agg #[.int .i64 (M1.nextP a b c now).a, .int .i64 (M1.nextP a b c now).b, .int .i64 (M1.nextP a b c now).c], .bool (M1.nextP a b c now).ok]) (by simp [results, Tryz.results95, go_sem, *]) rfl ⟨rfl, ?_⟩
      repeat (first | (with_reducible exact Below.refl _ _) | ((with_reducible refine Below.setCell ?_ ?_ _); rotate_left; (focus (first | omega | (simp; done) | (simp; omega)))) | ((with_reducible refine Below.alloc ?_ ?_ _); rotate_left; (focus (first | omega | (simp; done) | (simp; omega)))) | (with_reducible refine Below.drew ?_) | ((with_reducible refine Below.trans ?_ (Below.mono hB2 ?_)); rotate_left; (focus (first | omega | (simp; done) | (simp; omega)))))
    · have e1 : M1.tickP a b c now = ⟨0, 0, 0, false⟩ := by simp [M1.tickP, h2]
      rw [e1]; clear e1
      have h2' : M1.inB now 0 1000000000 = false := by simpa using h2
      go_enter Tryz.func95, Tryz.ntmps95
      go_wp2_with fail
      refine (stampOk_spec _ _ _ _).mono ?_
      rintro e w1 ⟨rfl, hb1⟩
      have hB1 := hb1
      clear hb1
      obtain ⟨hc1, hf1⟩ := bcell hB1
      have hz1 := hB1.size
      (try simp [Nat.succ_le_iff] at hz1)
      have hz1_0 : w.heap.size < w1.heap.size := by omega
      go_wp2_with ((go_at_call 65; refine (l1In_any _ _ _ _).mono ?_; rintro e w' ⟨rfl, rfl⟩))
      refine bodyPost_ret (v := .tuple #[.agg #[.int .i64 0, .int .i64 0, .int .i64 0], .bool false]) (by simp [results, Tryz.results95, go_sem, *]) rfl ⟨rfl, ?_⟩
      repeat (first | (with_reducible exact Below.refl _ _) | ((with_reducible refine Below.setCell ?_ ?_ _); rotate_left; (focus (first | omega | (simp; done) | (simp; omega)))) | ((with_reducible refine Below.alloc ?_ ?_ _); rotate_left; (focus (first | omega | (simp; done) | (simp; omega)))) | (with_reducible refine Below.drew ?_) | ((with_reducible refine Below.trans ?_ (Below.mono hB1 ?_)); rotate_left; (focus (first | omega | (simp; done) | (simp; omega)))))
  · have e1 : M1.tickP a b c now = ⟨0, 0, 0, false⟩ := by simp [M1.tickP, h1]
    rw [e1]; clear e1
    have h1' : M1.stOk a b c = false := by simpa using h1
    go_enter Tryz.func95, Tryz.ntmps95
    go_wp2_with fail
    refine (stampOk_spec _ _ _ _).mono ?_
    rintro e w1 ⟨rfl, hb1⟩
    have hB1 := hb1
    clear hb1
    obtain ⟨hc1, hf1⟩ := bcell hB1
    have hz1 := hB1.size
    (try simp [Nat.succ_le_iff] at hz1)
    have hz1_0 : w.heap.size < w1.heap.size := by omega
    go_wp2_with ((go_at_call 65; refine (l1In_any _ _ _ _).mono ?_; rintro e w' ⟨rfl, rfl⟩))
    refine bodyPost_ret (v := .tuple #[.agg #[.int .i64 0, .int .i64 0, .int .i64 0], .bool false]) (by simp [results, Tryz.results95, go_sem, *]) rfl ⟨rfl, ?_⟩
    repeat (first | (with_reducible exact Below.refl _ _) | ((with_reducible refine Below.setCell ?_ ?_ _); rotate_left; (focus (first | omega | (simp; done) | (simp; omega)))) | ((with_reducible refine Below.alloc ?_ ?_ _); rotate_left; (focus (first | omega | (simp; done) | (simp; omega)))) | (with_reducible refine Below.drew ?_) | ((with_reducible refine Below.trans ?_ (Below.mono hB1 ?_)); rotate_left; (focus (first | omega | (simp; done) | (simp; omega)))))

theorem ticked_impl (a b c now : Int) (w : World) :
    Calls Tryz.prog 87 #[.agg #[.int .i64 a, .int .i64 b, .int .i64 c], .int .i64 now] w fun e w' => e = .returned (.tuple #[.agg #[.int .i64 (M1.tickP a b c now).a, .int .i64 (M1.tickP a b c now).b, .int .i64 (M1.tickP a b c now).c], .bool (M1.tickP a b c now).ok]) ∧ Below w.heap.size w w' := by
  by_cases h1 : M1.stOk a b c = true
  · by_cases h2 : M1.inB now 0 1000000000 = true
    · have e1 : M1.tickP a b c now = M1.nextP a b c now := by simp [M1.tickP, h1, h2]
      rw [e1]; clear e1
      have hb := M1.stOk_true h1
      have hb2 : 0 ≤ b ∧ b ≤ 1000000 := by omega
      clear hb
      obtain ⟨hb1, hb3⟩ := hb2
      by_cases h3 : a < now
      · have e1 : M1.nextP a b c now = ⟨now, 0, c, true⟩ := by simp [M1.nextP, h3]
        rw [e1]; clear e1
        go_enter Tryz.func87, Tryz.ntmps87
        go_wp2_with fail
        refine (stampOk_impl _ _ _ _).mono ?_
        rintro e w1 ⟨rfl, hb1⟩
        have hB1 := hb1
        clear hb1
        obtain ⟨hc1, hf1⟩ := bcell hB1
        have hz1 := hB1.size
        (try simp [Nat.succ_le_iff] at hz1)
        have hz1_0 : w.heap.size < w1.heap.size := by omega
        go_wp2_with ((go_at_call 83; refine (timeOk_any _ _).mono ?_; rintro e w' ⟨rfl, rfl⟩))
        refine bodyPost_ret (v := .tuple #[.agg #[.int .i64 now, .int .i64 0, .int .i64 c], .bool true]) (by simp [results, Tryz.results87, go_sem, *]) rfl ⟨rfl, ?_⟩
        repeat (first | (with_reducible exact Below.refl _ _) | ((with_reducible refine Below.setCell ?_ ?_ _); rotate_left; (focus (first | omega | (simp; done) | (simp; omega)))) | ((with_reducible refine Below.alloc ?_ ?_ _); rotate_left; (focus (first | omega | (simp; done) | (simp; omega)))) | (with_reducible refine Below.drew ?_) | ((with_reducible refine Below.trans ?_ (Below.mono hB1 ?_)); rotate_left; (focus (first | omega | (simp; done) | (simp; omega)))))
      · by_cases h4 : b = 1000000
        · have e1 : M1.nextP a b c now = ⟨0, 0, 0, false⟩ := by simp [M1.nextP, h3, h4]
          rw [e1]; clear e1
          subst h4
          go_enter Tryz.func87, Tryz.ntmps87
          go_wp2_with fail
          refine (stampOk_impl _ _ _ _).mono ?_
          rintro e w1 ⟨rfl, hb1⟩
          have hB1 := hb1
          clear hb1
          obtain ⟨hc1, hf1⟩ := bcell hB1
          have hz1 := hB1.size
          (try simp [Nat.succ_le_iff] at hz1)
          have hz1_0 : w.heap.size < w1.heap.size := by omega
          go_wp2_with ((go_at_call 83; refine (timeOk_any _ _).mono ?_; rintro e w' ⟨rfl, rfl⟩))
          refine bodyPost_ret (v := .tuple #[.agg #[.int .i64 0, .int .i64 0, .int .i64 0], .bool false]) (by simp [results, Tryz.results87, go_sem, *]) rfl ⟨rfl, ?_⟩
          repeat (first | (with_reducible exact Below.refl _ _) | ((with_reducible refine Below.setCell ?_ ?_ _); rotate_left; (focus (first | omega | (simp; done) | (simp; omega)))) | ((with_reducible refine Below.alloc ?_ ?_ _); rotate_left; (focus (first | omega | (simp; done) | (simp; omega)))) | (with_reducible refine Below.drew ?_) | ((with_reducible refine Below.trans ?_ (Below.mono hB1 ?_)); rotate_left; (focus (first | omega | (simp; done) | (simp; omega)))))
        · have e1 : M1.nextP a b c now = ⟨a, b + 1, c, true⟩ := by simp [M1.nextP, h3, h4]
          rw [e1]; clear e1
          have h5 : (b == 1000000) = false := by simp [h4]
          go_enter Tryz.func87, Tryz.ntmps87
          go_wp2_with fail
          refine (stampOk_impl _ _ _ _).mono ?_
          rintro e w1 ⟨rfl, hb1⟩
          have hB1 := hb1
          clear hb1
          obtain ⟨hc1, hf1⟩ := bcell hB1
          have hz1 := hB1.size
          (try simp [Nat.succ_le_iff] at hz1)
          have hz1_0 : w.heap.size < w1.heap.size := by omega
          go_wp2_with ((go_at_call 83; refine (timeOk_any _ _).mono ?_; rintro e w' ⟨rfl, rfl⟩))
          refine bodyPost_ret (v := .tuple #[.agg #[.int .i64 a, .int .i64 (b + 1), .int .i64 c], .bool true]) (by simp [results, Tryz.results87, go_sem, *]) rfl ⟨rfl, ?_⟩
          repeat (first | (with_reducible exact Below.refl _ _) | ((with_reducible refine Below.setCell ?_ ?_ _); rotate_left; (focus (first | omega | (simp; done) | (simp; omega)))) | ((with_reducible refine Below.alloc ?_ ?_ _); rotate_left; (focus (first | omega | (simp; done) | (simp; omega)))) | (with_reducible refine Below.drew ?_) | ((with_reducible refine Below.trans ?_ (Below.mono hB1 ?_)); rotate_left; (focus (first | omega | (simp; done) | (simp; omega)))))
    · have e1 : M1.tickP a b c now = ⟨0, 0, 0, false⟩ := by simp [M1.tickP, h2]
      rw [e1]; clear e1
      have h2' : M1.inB now 0 1000000000 = false := by simpa using h2
      go_enter Tryz.func87, Tryz.ntmps87
      go_wp2_with fail
      refine (stampOk_impl _ _ _ _).mono ?_
      rintro e w1 ⟨rfl, hb1⟩
      have hB1 := hb1
      clear hb1
      obtain ⟨hc1, hf1⟩ := bcell hB1
      have hz1 := hB1.size
      (try simp [Nat.succ_le_iff] at hz1)
      have hz1_0 : w.heap.size < w1.heap.size := by omega
      go_wp2_with ((go_at_call 83; refine (timeOk_any _ _).mono ?_; rintro e w' ⟨rfl, rfl⟩))
      refine bodyPost_ret (v := .tuple #[.agg #[.int .i64 0, .int .i64 0, .int .i64 0], .bool false]) (by simp [results, Tryz.results87, go_sem, *]) rfl ⟨rfl, ?_⟩
      repeat (first | (with_reducible exact Below.refl _ _) | ((with_reducible refine Below.setCell ?_ ?_ _); rotate_left; (focus (first | omega | (simp; done) | (simp; omega)))) | ((with_reducible refine Below.alloc ?_ ?_ _); rotate_left; (focus (first | omega | (simp; done) | (simp; omega)))) | (with_reducible refine Below.drew ?_) | ((with_reducible refine Below.trans ?_ (Below.mono hB1 ?_)); rotate_left; (focus (first | omega | (simp; done) | (simp; omega)))))
  · have e1 : M1.tickP a b c now = ⟨0, 0, 0, false⟩ := by simp [M1.tickP, h1]
    rw [e1]; clear e1
    have h1' : M1.stOk a b c = false := by simpa using h1
    go_enter Tryz.func87, Tryz.ntmps87
    go_wp2_with fail
    refine (stampOk_impl _ _ _ _).mono ?_
    rintro e w1 ⟨rfl, hb1⟩
    have hB1 := hb1
    clear hb1
    obtain ⟨hc1, hf1⟩ := bcell hB1
    have hz1 := hB1.size
    (try simp [Nat.succ_le_iff] at hz1)
    have hz1_0 : w.heap.size < w1.heap.size := by omega
    go_wp2_with ((go_at_call 83; refine (timeOk_any _ _).mono ?_; rintro e w' ⟨rfl, rfl⟩))
    refine bodyPost_ret (v := .tuple #[.agg #[.int .i64 0, .int .i64 0, .int .i64 0], .bool false]) (by simp [results, Tryz.results87, go_sem, *]) rfl ⟨rfl, ?_⟩
    repeat (first | (with_reducible exact Below.refl _ _) | ((with_reducible refine Below.setCell ?_ ?_ _); rotate_left; (focus (first | omega | (simp; done) | (simp; omega)))) | ((with_reducible refine Below.alloc ?_ ?_ _); rotate_left; (focus (first | omega | (simp; done) | (simp; omega)))) | (with_reducible refine Below.drew ?_) | ((with_reducible refine Below.trans ?_ (Below.mono hB1 ?_)); rotate_left; (focus (first | omega | (simp; done) | (simp; omega)))))

end Go.Proofs.YtccendmoeelniaaGreatDoor
