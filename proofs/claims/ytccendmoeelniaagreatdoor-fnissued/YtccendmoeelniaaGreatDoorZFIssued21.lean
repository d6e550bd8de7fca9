/-
  Texts of one proof, joined: VecOf, Cov, Dots.
-/
import Derived.Test.YtccendmoeelniaaGreatDoorZFIssued02
import Derived.Test.YtccendmoeelniaaGreatDoorZFIssued20
import Derived.Test.YtccendmoeelniaaGreatDoorZFIssued03
namespace Go.Proofs.YtccendmoeelniaaGreatDoor
open Go.ChangeShapes Go.WideShapes Go.ChangeAt Go.RowKit
def ofP (ds : List (Int × Int)) (r : Int) : Int := if M1.vecOk ds = true then M1.lk ds r else -1

set_option maxHeartbeats 1000000 in
theorem vecOf_impl (av : Option Addr) (n cn : Nat) (ds : List (Int × Int)) (r : Int) (w : World) (h1 : IsVec w av n cn ds) :
  Calls Tryz.prog 17 #[.slice av n cn, .int .i64 r] w fun e w' => e = .returned (.int .i64 (ofP ds r)) ∧ Below w.heap.size w w' := by
 by_cases hv : M1.vecOk ds = true
 ·have e1 : ofP ds r = M1.lk ds r := by simp [ofP, hv]
  rw [e1]; clear e1
  have HV : Hid (M1.vecOk ds = true) := hv
  clear hv
  by_cases hr : M1.inB r 1 5 = true
  ·have hcs : r = 1 ∨ r = 2 ∨ r = 3 ∨ r = 4 ∨ r = 5 := by have := M1.inB_true hr; omega
   rcases hcs with rfl | rfl | rfl | rfl | rfl
   all_goals
    go_enter Tryz.func17, Tryz.ntmps17
    go_wp2_with fail
    refine (vectorFrom_yes _ _ _ _ _ h1 HV.out).mono ?_
    rintro e w1 ⟨rfl, hb1⟩
    have hB1 := hb1
    clear hb1
    obtain ⟨hc1, hf1⟩ := bcell hB1
    have hz1 := hB1.size
    (try simp [Nat.succ_le_iff] at hz1)
    go_wp2_with ((go_at_call 52; refine (inRange_any _ _ _ _).mono ?_; rintro e w' ⟨rfl, rfl⟩))
    go_ret
    refine ⟨rfl, ?_⟩
    repeat (first | (with_reducible exact Below.refl _ _) | ((with_reducible refine Below.setCell ?_ ?_ _); rotate_left; (focus (first | omega | (simp; done) | (simp; omega)))) | ((with_reducible refine Below.alloc ?_ ?_ _); rotate_left; (focus (first | omega | (simp; done) | (simp; omega)))) | (with_reducible refine Below.drew ?_) | ((with_reducible refine Below.trans ?_ (Below.mono hB1 ?_)); rotate_left; (focus (first | omega | (simp; done) | (simp; omega)))))
  ·have HQ : Hid (M1.lk ds r = 0) := M1.lk_out HV.out (by simp [M1.inB] at hr; omega)
   rw [HQ.out]
   have hr' : M1.inB r 1 5 = false := by simpa using hr
   clear hr
   go_enter Tryz.func17, Tryz.ntmps17
   go_wp2_with fail
   refine (vectorFrom_yes _ _ _ _ _ h1 HV.out).mono ?_
   rintro e w1 ⟨rfl, hb1⟩
   have hB1 := hb1
   clear hb1
   obtain ⟨hc1, hf1⟩ := bcell hB1
   have hz1 := hB1.size
   (try simp [Nat.succ_le_iff] at hz1)
   go_wp2_with ((go_at_call 52; refine (inRange_any _ _ _ _).mono ?_; rintro e w' ⟨rfl, rfl⟩))
   go_ret
   refine ⟨rfl, ?_⟩
   repeat (first | (with_reducible exact Below.refl _ _) | ((with_reducible refine Below.setCell ?_ ?_ _); rotate_left; (focus (first | omega | (simp; done) | (simp; omega)))) | ((with_reducible refine Below.alloc ?_ ?_ _); rotate_left; (focus (first | omega | (simp; done) | (simp; omega)))) | (with_reducible refine Below.drew ?_) | ((with_reducible refine Below.trans ?_ (Below.mono hB1 ?_)); rotate_left; (focus (first | omega | (simp; done) | (simp; omega)))))
 ·have e1 : ofP ds r = -1 := by simp [ofP, hv]
  rw [e1]; clear e1
  have HV : Hid (M1.vecOk ds = false) := (by simpa using hv : M1.vecOk ds = false)
  clear hv
  go_enter Tryz.func17, Tryz.ntmps17
  go_wp2_with fail
  refine (vectorFrom_no _ _ _ _ _ h1 HV.out).mono ?_
  rintro e w1 ⟨rfl, hb1⟩
  have hB1 := hb1
  clear hb1
  obtain ⟨hc1, hf1⟩ := bcell hB1
  have hz1 := hB1.size
  (try simp [Nat.succ_le_iff] at hz1)
  go_wp2_with fail
  go_ret
  refine ⟨rfl, ?_⟩
  repeat (first | (with_reducible exact Below.refl _ _) | ((with_reducible refine Below.setCell ?_ ?_ _); rotate_left; (focus (first | omega | (simp; done) | (simp; omega)))) | ((with_reducible refine Below.alloc ?_ ?_ _); rotate_left; (focus (first | omega | (simp; done) | (simp; omega)))) | (with_reducible refine Below.drew ?_) | ((with_reducible refine Below.trans ?_ (Below.mono hB1 ?_)); rotate_left; (focus (first | omega | (simp; done) | (simp; omega)))))

end Go.Proofs.YtccendmoeelniaaGreatDoor

namespace Go.Proofs.YtccendmoeelniaaGreatDoor
open Go.ChangeShapes Go.WideShapes Go.ChangeAt Go.RowKit
theorem idx0 (a b c d e : Int) (w : World) : Sem.run Tryz.prog (Instr.index 96 (.agg #[.int .i64 a, .int .i64 b, .int .i64 c, .int .i64 d, .int .i64 e]) (.int .i64 0)) w = .ok (.int .i64 a) w := by kernel_rfl

theorem idx1 (a b c d e : Int) (w : World) : Sem.run Tryz.prog (Instr.index 96 (.agg #[.int .i64 a, .int .i64 b, .int .i64 c, .int .i64 d, .int .i64 e]) (.int .i64 1)) w = .ok (.int .i64 b) w := by kernel_rfl

theorem idx2 (a b c d e : Int) (w : World) : Sem.run Tryz.prog (Instr.index 96 (.agg #[.int .i64 a, .int .i64 b, .int .i64 c, .int .i64 d, .int .i64 e]) (.int .i64 2)) w = .ok (.int .i64 c) w := by kernel_rfl

theorem idx3 (a b c d e : Int) (w : World) : Sem.run Tryz.prog (Instr.index 96 (.agg #[.int .i64 a, .int .i64 b, .int .i64 c, .int .i64 d, .int .i64 e]) (.int .i64 3)) w = .ok (.int .i64 d) w := by kernel_rfl

theorem idx4 (a b c d e : Int) (w : World) : Sem.run Tryz.prog (Instr.index 96 (.agg #[.int .i64 a, .int .i64 b, .int .i64 c, .int .i64 d, .int .i64 e]) (.int .i64 4)) w = .ok (.int .i64 e) w := by kernel_rfl

end Go.Proofs.YtccendmoeelniaaGreatDoor

namespace Go.Proofs.YtccendmoeelniaaGreatDoor
open Go.ChangeShapes Go.WideShapes Go.ChangeAt Go.RowKit
def Joined (w w' : World) (e : Ending) (ds : List (Int × Int)) : Prop := ∃ v, e = .returned v ∧ w'.ownsRow w.heap.size 36 2 v ds.length (dcs ds)

set_option maxHeartbeats 8000000 in
theorem dotsOf_any (f : Int → Int) (w : World) :
  Calls Tryz.prog 56 #[.agg #[.int .i64 (f 1), .int .i64 (f 2), .int .i64 (f 3), .int .i64 (f 4), .int .i64 (f 5)]] w fun e w' => Joined w w' e (M1.dlTo f 5) ∧ Below w.heap.size w w' := by
 obtain ⟨ti, hi1, hi2, hi3, hi4⟩ := infoDot
 have hi4' : Hid (ti.bytes = 16) := hi4
 have hi2' : Hid (ti.zero = some (.agg #[.int .i64 0, .int .i64 0])) := hi2
 have hi3' : Hid (ti.size = 2) := hi3
 have hi1' : Hid (Tryz.prog.info? 36 = some ti) := hi1
 clear hi1 hi2 hi3 hi4
 go_enter Tryz.func56, Tryz.ntmps56
 go_wp2_with fail
 go_loopw [3, 4, 5, 7] (fun out _ _ i wr => ∃ q : Int, 0 ≤ q ∧ q ≤ 5 ∧ i = .int .i64 q ∧ Below w.heap.size w wr ∧ wr.ownsRow w.heap.size 36 2 out (M1.dlTo f q.toNat).length (dcs (M1.dlTo f q.toNat))) (fun _ _ _ i _ => 5 - (intOf i).toNat)
 case atStart => exact ⟨0, by omega, by omega, rfl, (Below.refl _ _).alloc (Nat.le_refl _) _, owns_nil _ _ _⟩
 case round =>
  obtain ⟨q, hq0, hq5, rfl, hB, hown0⟩ := hrel
  have x0 := @idx0
  have x1 := @idx1
  have x2 := @idx2
  have x3 := @idx3
  have x4 := @idx4
  have hs := hB.size
  by_cases hlt : q < 5
  ·obtain rfl | rfl | rfl | rfl | rfl : q = 0 ∨ q = 1 ∨ q = 2 ∨ q = 3 ∨ q = 4 := by omega
   ·by_cases hq : 0 < f 1
    ·have HE : Hid (M1.dlTo f 1 = M1.dlTo f 0 ++ [(1, f 1)]) := M1.dl_step f 0 1 (by omega) hq
     have hlen := M1.dlTo_len f 0
     have hown : wr.ownsRow w.heap.size 36 2 u3 (M1.dlTo f 0).length (dcs (M1.dlTo f 0)) := hown0
     clear hown0
     go_wp2_with (at_builtin; refine wpList_append_lies _ rfl _ _ _ rfl w.heap.size 36 ti _ 2 16 Tryz.underlying46 hi1'.out hi2'.out hi3'.out hi4'.out rfl (by omega) u3 (M1.dlTo f 0).length (dcs (M1.dlTo f 0)) rfl (owns_below hown ((Below.refl _ _).alloc (Nat.le_refl _) _)) ⟨wr.heap.size, 0, none⟩ 1 1 [.int .i64 1, .int .i64 (f 1)] rfl rfl (news2 _ _ _ _) (one2 _ _) (by omega) (by unfold maxLen; omega) (by omega) (by simp; omega) _ rfl ?_; intro g cap w4 hown4 hgrow4 hat4 hlt4)
     have hB4 : Below w.heap.size w w4 := (hB.alloc hB.size _).grown hgrow4 (by simp; omega) (owns_base hown)
     exact ⟨⟨1, by omega, by omega, rfl, hB4, by show w4.ownsRow _ _ _ _ (M1.dlTo f 1).length (dcs (M1.dlTo f 1)); rw [HE.out]; exact owns_snoc hown4⟩, by simp [intOf]⟩
    ·have HE : Hid (M1.dlTo f 1 = M1.dlTo f 0) := M1.dl_stay f 0 1 (by omega) hq
     go_wp2_with fail
     exact ⟨⟨1, by omega, by omega, rfl, hB, by show wr.ownsRow _ _ _ _ (M1.dlTo f 1).length (dcs (M1.dlTo f 1)); rw [HE.out]; exact hown0⟩, by simp [intOf]⟩
   ·by_cases hq : 0 < f 2
    ·have HE : Hid (M1.dlTo f 2 = M1.dlTo f 1 ++ [(2, f 2)]) := M1.dl_step f 1 2 (by omega) hq
     have hlen := M1.dlTo_len f 1
     have hown : wr.ownsRow w.heap.size 36 2 u3 (M1.dlTo f 1).length (dcs (M1.dlTo f 1)) := hown0
     clear hown0
     go_wp2_with (at_builtin; refine wpList_append_lies _ rfl _ _ _ rfl w.heap.size 36 ti _ 2 16 Tryz.underlying46 hi1'.out hi2'.out hi3'.out hi4'.out rfl (by omega) u3 (M1.dlTo f 1).length (dcs (M1.dlTo f 1)) rfl (owns_below hown ((Below.refl _ _).alloc (Nat.le_refl _) _)) ⟨wr.heap.size, 0, none⟩ 1 1 [.int .i64 2, .int .i64 (f 2)] rfl rfl (news2 _ _ _ _) (one2 _ _) (by omega) (by unfold maxLen; omega) (by omega) (by simp; omega) _ rfl ?_; intro g cap w4 hown4 hgrow4 hat4 hlt4)
     have hB4 : Below w.heap.size w w4 := (hB.alloc hB.size _).grown hgrow4 (by simp; omega) (owns_base hown)
     exact ⟨⟨2, by omega, by omega, rfl, hB4, by show w4.ownsRow _ _ _ _ (M1.dlTo f 2).length (dcs (M1.dlTo f 2)); rw [HE.out]; exact owns_snoc hown4⟩, by simp [intOf]⟩
    ·have HE : Hid (M1.dlTo f 2 = M1.dlTo f 1) := M1.dl_stay f 1 2 (by omega) hq
     go_wp2_with fail
     exact ⟨⟨2, by omega, by omega, rfl, hB, by show wr.ownsRow _ _ _ _ (M1.dlTo f 2).length (dcs (M1.dlTo f 2)); rw [HE.out]; exact hown0⟩, by simp [intOf]⟩
   ·by_cases hq : 0 < f 3
    ·have HE : Hid (M1.dlTo f 3 = M1.dlTo f 2 ++ [(3, f 3)]) := M1.dl_step f 2 3 (by omega) hq
     have hlen := M1.dlTo_len f 2
     have hown : wr.ownsRow w.heap.size 36 2 u3 (M1.dlTo f 2).length (dcs (M1.dlTo f 2)) := hown0
     clear hown0
     go_wp2_with (at_builtin; refine wpList_append_lies _ rfl _ _ _ rfl w.heap.size 36 ti _ 2 16 Tryz.underlying46 hi1'.out hi2'.out hi3'.out hi4'.out rfl (by omega) u3 (M1.dlTo f 2).length (dcs (M1.dlTo f 2)) rfl (owns_below hown ((Below.refl _ _).alloc (Nat.le_refl _) _)) ⟨wr.heap.size, 0, none⟩ 1 1 [.int .i64 3, .int .i64 (f 3)] rfl rfl (news2 _ _ _ _) (one2 _ _) (by omega) (by unfold maxLen; omega) (by omega) (by simp; omega) _ rfl ?_; intro g cap w4 hown4 hgrow4 hat4 hlt4)
     have hB4 : Below w.heap.size w w4 := (hB.alloc hB.size _).grown hgrow4 (by simp; omega) (owns_base hown)
     exact ⟨⟨3, by omega, by omega, rfl, hB4, by show w4.ownsRow _ _ _ _ (M1.dlTo f 3).length (dcs (M1.dlTo f 3)); rw [HE.out]; exact owns_snoc hown4⟩, by simp [intOf]⟩
    ·have HE : Hid (M1.dlTo f 3 = M1.dlTo f 2) := M1.dl_stay f 2 3 (by omega) hq
     go_wp2_with fail
     exact ⟨⟨3, by omega, by omega, rfl, hB, by show wr.ownsRow _ _ _ _ (M1.dlTo f 3).length (dcs (M1.dlTo f 3)); rw [HE.out]; exact hown0⟩, by simp [intOf]⟩
   ·by_cases hq : 0 < f 4
    ·have HE : Hid (M1.dlTo f 4 = M1.dlTo f 3 ++ [(4, f 4)]) := M1.dl_step f 3 4 (by omega) hq
     have hlen := M1.dlTo_len f 3
     have hown : wr.ownsRow w.heap.size 36 2 u3 (M1.dlTo f 3).length (dcs (M1.dlTo f 3)) := hown0
     clear hown0
     go_wp2_with (at_builtin; refine wpList_append_lies _ rfl _ _ _ rfl w.heap.size 36 ti _ 2 16 Tryz.underlying46 hi1'.out hi2'.out hi3'.out hi4'.out rfl (by omega) u3 (M1.dlTo f 3).length (dcs (M1.dlTo f 3)) rfl (owns_below hown ((Below.refl _ _).alloc (Nat.le_refl _) _)) ⟨wr.heap.size, 0, none⟩ 1 1 [.int .i64 4, .int .i64 (f 4)] rfl rfl (news2 _ _ _ _) (one2 _ _) (by omega) (by unfold maxLen; omega) (by omega) (by simp; omega) _ rfl ?_; intro g cap w4 hown4 hgrow4 hat4 hlt4)
     have hB4 : Below w.heap.size w w4 := (hB.alloc hB.size _).grown hgrow4 (by simp; omega) (owns_base hown)
     exact ⟨⟨4, by omega, by omega, rfl, hB4, by show w4.ownsRow _ _ _ _ (M1.dlTo f 4).length (dcs (M1.dlTo f 4)); rw [HE.out]; exact owns_snoc hown4⟩, by simp [intOf]⟩
    ·have HE : Hid (M1.dlTo f 4 = M1.dlTo f 3) := M1.dl_stay f 3 4 (by omega) hq
     go_wp2_with fail
     exact ⟨⟨4, by omega, by omega, rfl, hB, by show wr.ownsRow _ _ _ _ (M1.dlTo f 4).length (dcs (M1.dlTo f 4)); rw [HE.out]; exact hown0⟩, by simp [intOf]⟩
   ·by_cases hq : 0 < f 5
    ·have HE : Hid (M1.dlTo f 5 = M1.dlTo f 4 ++ [(5, f 5)]) := M1.dl_step f 4 5 (by omega) hq
     have hlen := M1.dlTo_len f 4
     have hown : wr.ownsRow w.heap.size 36 2 u3 (M1.dlTo f 4).length (dcs (M1.dlTo f 4)) := hown0
     clear hown0
     go_wp2_with (at_builtin; refine wpList_append_lies _ rfl _ _ _ rfl w.heap.size 36 ti _ 2 16 Tryz.underlying46 hi1'.out hi2'.out hi3'.out hi4'.out rfl (by omega) u3 (M1.dlTo f 4).length (dcs (M1.dlTo f 4)) rfl (owns_below hown ((Below.refl _ _).alloc (Nat.le_refl _) _)) ⟨wr.heap.size, 0, none⟩ 1 1 [.int .i64 5, .int .i64 (f 5)] rfl rfl (news2 _ _ _ _) (one2 _ _) (by omega) (by unfold maxLen; omega) (by omega) (by simp; omega) _ rfl ?_; intro g cap w4 hown4 hgrow4 hat4 hlt4)
     have hB4 : Below w.heap.size w w4 := (hB.alloc hB.size _).grown hgrow4 (by simp; omega) (owns_base hown)
     exact ⟨⟨5, by omega, by omega, rfl, hB4, by show w4.ownsRow _ _ _ _ (M1.dlTo f 5).length (dcs (M1.dlTo f 5)); rw [HE.out]; exact owns_snoc hown4⟩, by simp [intOf]⟩
    ·have HE : Hid (M1.dlTo f 5 = M1.dlTo f 4) := M1.dl_stay f 4 5 (by omega) hq
     go_wp2_with fail
     exact ⟨⟨5, by omega, by omega, rfl, hB, by show wr.ownsRow _ _ _ _ (M1.dlTo f 5).length (dcs (M1.dlTo f 5)); rw [HE.out]; exact hown0⟩, by simp [intOf]⟩
  ·obtain rfl : q = 5 := by omega
   go_wp2_with fail
   go_ret
   exact ⟨⟨_, rfl, hown0⟩, hB⟩

end Go.Proofs.YtccendmoeelniaaGreatDoor
