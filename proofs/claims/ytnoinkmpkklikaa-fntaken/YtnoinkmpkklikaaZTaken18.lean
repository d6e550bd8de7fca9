/-
  The contract of the program's dotsOf: of an array of five numbers the dots that are above 0.
-/
import Derived.Test.YtnoinkmpkklikaaZTaken17
namespace Go.Proofs.Ytnoinkmpkklikaa
open Go.ChangeShapes Go.WideShapes Go.ChangeAt Go.RowKit

/-- What a call that makes a vector leaves: a row of its own. -/
def Joined (w w' : World) (e : Ending) (ds : List (Int × Int)) : Prop := ∃ v, e = .returned v ∧ w'.ownsRow w.heap.size 45 2 v ds.length (dcs ds)

set_option maxHeartbeats 8000000 in
theorem dotsOf_any (f : Int → Int) (w : World) :
    Calls Try.prog 37 #[.agg #[.int .i64 (f 1), .int .i64 (f 2), .int .i64 (f 3), .int .i64 (f 4), .int .i64 (f 5)]] w fun e w' => Joined w w' e (M1.dlTo f 5) ∧ Below w.heap.size w w' := by
  obtain ⟨ti, hi1, hi2, hi3, hi4⟩ := infoDot
  have hi4' : Hid (ti.bytes = 16) := hi4
  have hi2' : Hid (ti.zero = some (.agg #[.int .i64 0, .int .i64 0])) := hi2
  have hi3' : Hid (ti.size = 2) := hi3
  have hi1' : Hid (Try.prog.info? 45 = some ti) := hi1
  clear hi1 hi2 hi3 hi4
  go_enter Try.func37, Try.ntmps37
  go_wp2_with fail
  go_loopw [3, 4, 5, 7] (fun out _ _ i wr => ∃ q : Int, 0 ≤ q ∧ q ≤ 5 ∧ i = .int .i64 q ∧ Below w.heap.size w wr ∧ wr.ownsRow w.heap.size 45 2 out (M1.dlTo f q.toNat).length (dcs (M1.dlTo f q.toNat))) (fun _ _ _ i _ => 5 - (intOf i).toNat)
  case atStart => exact ⟨0, by omega, by omega, rfl, (Below.refl _ _).alloc (Nat.le_refl _) _, owns_nil _ _ _⟩
  case round =>
    obtain ⟨q, hq0, hq5, rfl, hB, hown0⟩ := hrel
    have x0 := @idx0
    have x1 := @idx1
    have x2 := @idx2
    have x3 := @idx3
    have x4 := @idx4
    have hs := hB.size
    by_cases hlt : q < 5
    · obtain rfl | rfl | rfl | rfl | rfl : q = 0 ∨ q = 1 ∨ q = 2 ∨ q = 3 ∨ q = 4 := by omega
      · by_cases hq : 0 < f 1
        · have HE : Hid (M1.dlTo f 1 = M1.dlTo f 0 ++ [(1, f 1)]) := M1.dl_step f 0 1 (by omega) hq
          have hlen := M1.dlTo_len f 0
          have hown : wr.ownsRow w.heap.size 45 2 u3 (M1.dlTo f 0).length (dcs (M1.dlTo f 0)) := hown0
          clear hown0
          go_wp2_with (at_builtin; refine wpList_append_lies _ rfl _ _ _ rfl w.heap.size 45 ti _ 2 16 Try.underlying32 hi1'.out hi2'.out hi3'.out hi4'.out rfl (by omega) u3 (M1.dlTo f 0).length (dcs (M1.dlTo f 0)) rfl (owns_below hown ((Below.refl _ _).alloc (Nat.le_refl _) _)) ⟨wr.heap.size, 0, none⟩ 1 1 [.int .i64 1, .int .i64 (f 1)] rfl rfl (news2 _ _ _ _) (one2 _ _) (by omega) (by unfold maxLen; omega) (by omega) (by simp; omega) _ rfl ?_; intro g cap w4 hown4 hgrow4 hat4 hlt4)
          have hB4 : Below w.heap.size w w4 := (hB.alloc hB.size _).grown hgrow4 (by simp; omega) (owns_base hown)
          exact ⟨⟨1, by omega, by omega, rfl, hB4, by show w4.ownsRow _ _ _ _ (M1.dlTo f 1).length (dcs (M1.dlTo f 1)); rw [HE.out]; exact owns_snoc hown4⟩, by simp [intOf]⟩
        · have HE : Hid (M1.dlTo f 1 = M1.dlTo f 0) := M1.dl_stay f 0 1 (by omega) hq
          go_wp2_with fail
          exact ⟨⟨1, by omega, by omega, rfl, hB, by show wr.ownsRow _ _ _ _ (M1.dlTo f 1).length (dcs (M1.dlTo f 1)); rw [HE.out]; exact hown0⟩, by simp [intOf]⟩
      · by_cases hq : 0 < f 2
        · have HE : Hid (M1.dlTo f 2 = M1.dlTo f 1 ++ [(2, f 2)]) := M1.dl_step f 1 2 (by omega) hq
          have hlen := M1.dlTo_len f 1
          have hown : wr.ownsRow w.heap.size 45 2 u3 (M1.dlTo f 1).length (dcs (M1.dlTo f 1)) := hown0
          clear hown0
          go_wp2_with (at_builtin; refine wpList_append_lies _ rfl _ _ _ rfl w.heap.size 45 ti _ 2 16 Try.underlying32 hi1'.out hi2'.out hi3'.out hi4'.out rfl (by omega) u3 (M1.dlTo f 1).length (dcs (M1.dlTo f 1)) rfl (owns_below hown ((Below.refl _ _).alloc (Nat.le_refl _) _)) ⟨wr.heap.size, 0, none⟩ 1 1 [.int .i64 2, .int .i64 (f 2)] rfl rfl (news2 _ _ _ _) (one2 _ _) (by omega) (by unfold maxLen; omega) (by omega) (by simp; omega) _ rfl ?_; intro g cap w4 hown4 hgrow4 hat4 hlt4)
          have hB4 : Below w.heap.size w w4 := (hB.alloc hB.size _).grown hgrow4 (by simp; omega) (owns_base hown)
          exact ⟨⟨2, by omega, by omega, rfl, hB4, by show w4.ownsRow _ _ _ _ (M1.dlTo f 2).length (dcs (M1.dlTo f 2)); rw [HE.out]; exact owns_snoc hown4⟩, by simp [intOf]⟩
        · have HE : Hid (M1.dlTo f 2 = M1.dlTo f 1) := M1.dl_stay f 1 2 (by omega) hq
          go_wp2_with fail
          exact ⟨⟨2, by omega, by omega, rfl, hB, by show wr.ownsRow _ _ _ _ (M1.dlTo f 2).length (dcs (M1.dlTo f 2)); rw [HE.out]; exact hown0⟩, by simp [intOf]⟩
      · by_cases hq : 0 < f 3
        · have HE : Hid (M1.dlTo f 3 = M1.dlTo f 2 ++ [(3, f 3)]) := M1.dl_step f 2 3 (by omega) hq
          have hlen := M1.dlTo_len f 2
          have hown : wr.ownsRow w.heap.size 45 2 u3 (M1.dlTo f 2).length (dcs (M1.dlTo f 2)) := hown0
          clear hown0
          go_wp2_with (at_builtin; refine wpList_append_lies _ rfl _ _ _ rfl w.heap.size 45 ti _ 2 16 Try.underlying32 hi1'.out hi2'.out hi3'.out hi4'.out rfl (by omega) u3 (M1.dlTo f 2).length (dcs (M1.dlTo f 2)) rfl (owns_below hown ((Below.refl _ _).alloc (Nat.le_refl _) _)) ⟨wr.heap.size, 0, none⟩ 1 1 [.int .i64 3, .int .i64 (f 3)] rfl rfl (news2 _ _ _ _) (one2 _ _) (by omega) (by unfold maxLen; omega) (by omega) (by simp; omega) _ rfl ?_; intro g cap w4 hown4 hgrow4 hat4 hlt4)
          have hB4 : Below w.heap.size w w4 := (hB.alloc hB.size _).grown hgrow4 (by simp; omega) (owns_base hown)
          exact ⟨⟨3, by omega, by omega, rfl, hB4, by show w4.ownsRow _ _ _ _ (M1.dlTo f 3).length (dcs (M1.dlTo f 3)); rw [HE.out]; exact owns_snoc hown4⟩, by simp [intOf]⟩
        · have HE : Hid (M1.dlTo f 3 = M1.dlTo f 2) := M1.dl_stay f 2 3 (by omega) hq
          go_wp2_with fail
          exact ⟨⟨3, by omega, by omega, rfl, hB, by show wr.ownsRow _ _ _ _ (M1.dlTo f 3).length (dcs (M1.dlTo f 3)); rw [HE.out]; exact hown0⟩, by simp [intOf]⟩
      · by_cases hq : 0 < f 4
        · have HE : Hid (M1.dlTo f 4 = M1.dlTo f 3 ++ [(4, f 4)]) := M1.dl_step f 3 4 (by omega) hq
          have hlen := M1.dlTo_len f 3
          have hown : wr.ownsRow w.heap.size 45 2 u3 (M1.dlTo f 3).length (dcs (M1.dlTo f 3)) := hown0
          clear hown0
          go_wp2_with (at_builtin; refine wpList_append_lies _ rfl _ _ _ rfl w.heap.size 45 ti _ 2 16 Try.underlying32 hi1'.out hi2'.out hi3'.out hi4'.out rfl (by omega) u3 (M1.dlTo f 3).length (dcs (M1.dlTo f 3)) rfl (owns_below hown ((Below.refl _ _).alloc (Nat.le_refl _) _)) ⟨wr.heap.size, 0, none⟩ 1 1 [.int .i64 4, .int .i64 (f 4)] rfl rfl (news2 _ _ _ _) (one2 _ _) (by omega) (by unfold maxLen; omega) (by omega) (by simp; omega) _ rfl ?_; intro g cap w4 hown4 hgrow4 hat4 hlt4)
          have hB4 : Below w.heap.size w w4 := (hB.alloc hB.size _).grown hgrow4 (by simp; omega) (owns_base hown)
          exact ⟨⟨4, by omega, by omega, rfl, hB4, by show w4.ownsRow _ _ _ _ (M1.dlTo f 4).length (dcs (M1.dlTo f 4)); rw [HE.out]; exact owns_snoc hown4⟩, by simp [intOf]⟩
        · have HE : Hid (M1.dlTo f 4 = M1.dlTo f 3) := M1.dl_stay f 3 4 (by omega) hq
          go_wp2_with fail
          exact ⟨⟨4, by omega, by omega, rfl, hB, by show wr.ownsRow _ _ _ _ (M1.dlTo f 4).length (dcs (M1.dlTo f 4)); rw [HE.out]; exact hown0⟩, by simp [intOf]⟩
      · by_cases hq : 0 < f 5
        · have HE : Hid (M1.dlTo f 5 = M1.dlTo f 4 ++ [(5, f 5)]) := M1.dl_step f 4 5 (by omega) hq
          have hlen := M1.dlTo_len f 4
          have hown : wr.ownsRow w.heap.size 45 2 u3 (M1.dlTo f 4).length (dcs (M1.dlTo f 4)) := hown0
          clear hown0
          go_wp2_with (at_builtin; refine wpList_append_lies _ rfl _ _ _ rfl w.heap.size 45 ti _ 2 16 Try.underlying32 hi1'.out hi2'.out hi3'.out hi4'.out rfl (by omega) u3 (M1.dlTo f 4).length (dcs (M1.dlTo f 4)) rfl (owns_below hown ((Below.refl _ _).alloc (Nat.le_refl _) _)) ⟨wr.heap.size, 0, none⟩ 1 1 [.int .i64 5, .int .i64 (f 5)] rfl rfl (news2 _ _ _ _) (one2 _ _) (by omega) (by unfold maxLen; omega) (by omega) (by simp; omega) _ rfl ?_; intro g cap w4 hown4 hgrow4 hat4 hlt4)
          have hB4 : Below w.heap.size w w4 := (hB.alloc hB.size _).grown hgrow4 (by simp; omega) (owns_base hown)
          exact ⟨⟨5, by omega, by omega, rfl, hB4, by show w4.ownsRow _ _ _ _ (M1.dlTo f 5).length (dcs (M1.dlTo f 5)); rw [HE.out]; exact owns_snoc hown4⟩, by simp [intOf]⟩
        · have HE : Hid (M1.dlTo f 5 = M1.dlTo f 4) := M1.dl_stay f 4 5 (by omega) hq
          go_wp2_with fail
          exact ⟨⟨5, by omega, by omega, rfl, hB, by show wr.ownsRow _ _ _ _ (M1.dlTo f 5).length (dcs (M1.dlTo f 5)); rw [HE.out]; exact hown0⟩, by simp [intOf]⟩
    · obtain rfl : q = 5 := by omega
      go_wp2_with fail
      go_ret
      exact ⟨⟨_, rfl, hown0⟩, hB⟩
end Go.Proofs.Ytnoinkmpkklikaa
