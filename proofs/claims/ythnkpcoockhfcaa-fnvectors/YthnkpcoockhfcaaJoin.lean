/-
  Contracts of VecJoin, of the model and of the program: both make the vector joinL.
-/
import Derived.Test.YthnkpcoockhfcaaDots
namespace Go.Proofs.Ythnkpcoockhfcaa
open Go.ChangeShapes Go.WideShapes Go.ChangeAt Go.RowKit

set_option maxHeartbeats 4000000 in
set_option maxRecDepth 100000 in
theorem vecJoin_spec (av bv : Option Addr) (n cn m cm : Nat) (xs ys : List (Int × Int)) (w : World) (h1 : IsVec w av n cn xs) (h2 : IsVec w bv m cm ys) :
    Calls Try.prog 14 #[.slice av n cn, .slice bv m cm] w fun e w' => Joined w w' e (M1.joinL xs ys) ∧ Below w.heap.size w w' := by
  by_cases hv : M1.vecOk xs = true
  · have HV : Hid (M1.vecOk xs = true) := hv
    by_cases hu : M1.vecOk ys = true
    · have HU : Hid (M1.vecOk ys = true) := hu
      have e1 : M1.joinL xs ys = M1.dlTo (fun r => max (M1.lk xs r) (M1.lk ys r)) 5 := by simp [M1.joinL, hv, hu]
      rw [e1]; clear e1 hv hu
      obtain ⟨ti, hi1, hi2, hi3, hi4⟩ := infoDot
      have hi4' : Hid (ti.bytes = 16) := hi4
      have hi2' : Hid (ti.zero = some (.agg #[.int .i64 0, .int .i64 0])) := hi2
      have hi3' : Hid (ti.size = 2) := hi3
      have hi1' : Hid (Try.prog.info? 36 = some ti) := hi1
      clear hi1 hi2 hi3 hi4
      go_enter Try.func14, Try.ntmps14
      go_wp2_with fail
      have hA : Below w.heap.size w (w.alloc (.cells #[] 36)) := (Below.refl _ _).alloc (Nat.le_refl _) _
      have own0 := owns_empty w 36
      refine (vecOk_spec _ _ _ _ _ (h1.below hA)).mono ?_
      rw [HV.out]
      rintro e w1 ⟨rfl, hb1⟩
      have hB1 := hA.trans (hb1.mono hA.size)
      have own1 := owns_below own0 hb1
      go_wp2_with fail
      refine (vecOk_spec _ _ _ _ _ (h2.below hB1)).mono ?_
      rw [HU.out]
      rintro e w2 ⟨rfl, hb2⟩
      have hB2 := hB1.trans (hb2.mono hB1.size)
      have own2 := owns_below own1 hb2
      clear own0 own1 hA hB1 hb1 hb2
      go_wp2_with fail
      go_loopw [5, 6, 7] (fun out reg _ wr => ∃ k : Nat, k ≤ 5 ∧ reg = .int .i64 ((k : Int) + 1) ∧ Below w.heap.size w wr ∧ wr.ownsRow w.heap.size 36 2 out (M1.dlTo (fun r => max (M1.lk xs r) (M1.lk ys r)) k).length (dcs (M1.dlTo (fun r => max (M1.lk xs r) (M1.lk ys r)) k))) (fun _ reg _ _ => 6 - (intOf reg).toNat)
      case atStart => exact ⟨0, by omega, rfl, hB2, own2⟩
      case round =>
        clear hB2 own2
        obtain ⟨k, hk, rfl, hB, hown⟩ := hrel
        by_cases hlt : k < 5
        · have i1 : ((k : Int) + 1) ≤ 5 := by omega
          have b1 := M1.lk_bd HV.out ((k : Int) + 1)
          have b2 := M1.lk_bd HU.out ((k : Int) + 1)
          have hlen := M1.dlTo_len (fun r => max (M1.lk xs r) (M1.lk ys r)) k
          have HY : Hid (0 < max (M1.lk xs ((k : Int) + 1)) (M1.lk ys ((k : Int) + 1)) → M1.dlTo (fun r => max (M1.lk xs r) (M1.lk ys r)) (k + 1) = M1.dlTo (fun r => max (M1.lk xs r) (M1.lk ys r)) k ++ [((k : Int) + 1, max (M1.lk xs ((k : Int) + 1)) (M1.lk ys ((k : Int) + 1)))]) := fun h => M1.dlTo_yes h
          have HN : Hid (¬ 0 < max (M1.lk xs ((k : Int) + 1)) (M1.lk ys ((k : Int) + 1)) → M1.dlTo (fun r => max (M1.lk xs r) (M1.lk ys r)) (k + 1) = M1.dlTo (fun r => max (M1.lk xs r) (M1.lk ys r)) k) := fun h => M1.dlTo_no h
          go_wp2_with fail
          refine (l1Of_any _ _ _ _ _ _ (h1.below hB) HV.out).mono ?_
          rintro e w3 ⟨rfl, rfl⟩
          go_wp2_with fail
          refine (l1Of_any _ _ _ _ _ _ (h2.below hB) HU.out).mono ?_
          rintro e w3 ⟨rfl, rfl⟩
          have hs3 := hB.size
          obtain ⟨D, hD⟩ : ∃ D, M1.dlTo (fun r => max (M1.lk xs r) (M1.lk ys r)) k = D := ⟨_, rfl⟩
          rw [hD] at hown hlen HY HN
          have HD : Hid (M1.dlTo (fun r => max (M1.lk xs r) (M1.lk ys r)) k = D) := hD
          clear hD
          generalize M1.lk xs ((k : Int) + 1) = A at *
          generalize M1.lk ys ((k : Int) + 1) = B at *
          by_cases hAB : A < B
          · have HE : Hid (M1.dlTo (fun r => max (M1.lk xs r) (M1.lk ys r)) (k + 1) = D ++ [((k : Int) + 1, B)]) := by
              have := HY.out (by omega)
              rw [show max A B = B from by omega] at this
              exact this
            clear HY HN
            go_wp2_with (at_builtin; refine wpList_append_lies _ rfl _ _ _ rfl w.heap.size 36 ti _ 2 16 Try.underlying24 hi1'.out hi2'.out hi3'.out hi4'.out rfl (by omega) u5 D.length (dcs D) rfl (owns_below hown ((Below.refl _ _).alloc (Nat.le_refl _) _)) ⟨w3.heap.size, 0, none⟩ 1 1 [.int .i64 ((k : Int) + 1), .int .i64 B] rfl rfl (news2 _ _ _ _) (one2 _ _) (by omega) (by unfold maxLen; omega) (by omega) (by simp; omega) _ rfl ?_; intro g cap w4 hown4 hgrow4 hat4 hlt4)
            have hB4 : Below w.heap.size w w4 := (hB.alloc hB.size _).grown hgrow4 (by simp; omega) (owns_base hown)
            exact ⟨⟨k + 1, by omega, by go_num, hB4, by rw [HE.out]; exact owns_snoc hown4⟩, by simp [intOf]; omega⟩
          · by_cases hA : 0 < A
            · have HE : Hid (M1.dlTo (fun r => max (M1.lk xs r) (M1.lk ys r)) (k + 1) = D ++ [((k : Int) + 1, A)]) := by
                have := HY.out (by omega)
                rw [show max A B = A from by omega] at this
                exact this
              clear HY HN
              go_wp2_with (at_builtin; refine wpList_append_lies _ rfl _ _ _ rfl w.heap.size 36 ti _ 2 16 Try.underlying24 hi1'.out hi2'.out hi3'.out hi4'.out rfl (by omega) u5 D.length (dcs D) rfl (owns_below hown ((Below.refl _ _).alloc (Nat.le_refl _) _)) ⟨w3.heap.size, 0, none⟩ 1 1 [.int .i64 ((k : Int) + 1), .int .i64 A] rfl rfl (news2 _ _ _ _) (one2 _ _) (by omega) (by unfold maxLen; omega) (by omega) (by simp; omega) _ rfl ?_; intro g cap w4 hown4 hgrow4 hat4 hlt4)
              have hB4 : Below w.heap.size w w4 := (hB.alloc hB.size _).grown hgrow4 (by simp; omega) (owns_base hown)
              exact ⟨⟨k + 1, by omega, by go_num, hB4, by rw [HE.out]; exact owns_snoc hown4⟩, by simp [intOf]; omega⟩
            · have HE : Hid (M1.dlTo (fun r => max (M1.lk xs r) (M1.lk ys r)) (k + 1) = D) := HN.out (by omega)
              clear HY HN
              go_wp2_with fail
              exact ⟨⟨k + 1, by omega, by go_num, hB, by rw [HE.out]; exact hown⟩, by simp [intOf]; omega⟩
        · have hk5 : k = 5 := by omega
          subst hk5
          go_wp2_with fail
          go_ret
          exact ⟨⟨_, rfl, hown⟩, hB⟩
    · have HU : Hid (M1.vecOk ys = false) := (by simpa using hu : M1.vecOk ys = false)
      have e1 : M1.joinL xs ys = [] := by simp [M1.joinL, hu]
      rw [e1]; clear e1 hv hu
      go_enter Try.func14, Try.ntmps14
      go_wp2_with fail
      have hA : Below w.heap.size w (w.alloc (.cells #[] 36)) := (Below.refl _ _).alloc (Nat.le_refl _) _
      have own0 := owns_empty w 36
      refine (vecOk_spec _ _ _ _ _ (h1.below hA)).mono ?_
      rw [HV.out]
      rintro e w1 ⟨rfl, hb1⟩
      have hB1 := hA.trans (hb1.mono hA.size)
      have own1 := owns_below own0 hb1
      go_wp2_with fail
      refine (vecOk_spec _ _ _ _ _ (h2.below hB1)).mono ?_
      rw [HU.out]
      rintro e w2 ⟨rfl, hb2⟩
      have hB2 := hB1.trans (hb2.mono hB1.size)
      have own2 := owns_below own1 hb2
      go_wp2_with fail
      go_ret
      exact ⟨⟨_, rfl, own2⟩, hB2⟩
  · have HV : Hid (M1.vecOk xs = false) := (by simpa using hv : M1.vecOk xs = false)
    have e1 : M1.joinL xs ys = [] := by simp [M1.joinL, hv]
    rw [e1]; clear e1 hv
    go_enter Try.func14, Try.ntmps14
    go_wp2_with fail
    have hA : Below w.heap.size w (w.alloc (.cells #[] 36)) := (Below.refl _ _).alloc (Nat.le_refl _) _
    have own0 := owns_empty w 36
    refine (vecOk_spec _ _ _ _ _ (h1.below hA)).mono ?_
    rw [HV.out]
    rintro e w1 ⟨rfl, hb1⟩
    have hB1 := hA.trans (hb1.mono hA.size)
    have own1 := owns_below own0 hb1
    go_wp2_with fail
    go_ret
    exact ⟨⟨_, rfl, own1⟩, hB1⟩
end Go.Proofs.Ythnkpcoockhfcaa
