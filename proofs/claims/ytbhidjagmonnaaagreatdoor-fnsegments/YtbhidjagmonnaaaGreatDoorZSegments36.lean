/-
  Texts of one proof, joined: VecOkSpec, VecFrom, VecOf, Cov, Dots.
-/
import Derived.Test.YtbhidjagmonnaaaGreatDoorZSegments07
import Derived.Test.YtbhidjagmonnaaaGreatDoorZSegments00
import Derived.Test.YtbhidjagmonnaaaGreatDoorZSegments08
namespace Go.Proofs.YtbhidjagmonnaaaGreatDoor
open Go.ChangeShapes Go.WideShapes Go.ChangeAt Go.RowKit
set_option linter.unusedSimpArgs false

end Go.Proofs.YtbhidjagmonnaaaGreatDoor

namespace Go.Proofs.YtbhidjagmonnaaaGreatDoor
open Go.ChangeShapes Go.WideShapes Go.ChangeAt Go.RowKit
set_option linter.unusedSimpArgs false

end Go.Proofs.YtbhidjagmonnaaaGreatDoor

namespace Go.Proofs.YtbhidjagmonnaaaGreatDoor
open Go.ChangeShapes Go.WideShapes Go.ChangeAt Go.RowKit

set_option maxHeartbeats 1000000 in
theorem l1Of_any (av : Option Addr) (n cn : Nat) (ds : List (Int × Int)) (r : Int) (w : World) (h1 : IsVec w av n cn ds) (hv : M1.vecOk ds = true) :
    Calls Tryz.prog 36 #[.slice av n cn, .int .i64 r] w fun e w' => e = .returned (.int .i64 (M1.lk ds r)) ∧ w' = w := by
  have hl1 : Hid (ds.length = n) := h1.hlen
  have HV : Hid (M1.vecOk ds = true) := hv
  clear hv
  have hm1 := h1.hcap
  have hm2 := h1.hmost
  unfold maxLen at hm2
  go_enter Tryz.func36, Tryz.ntmps36
  go_wp2
  go_loop [5] (fun i => ∃ k : Nat, k ≤ n ∧ i = .int .i64 k ∧ Hid (∀ j, j < k → ¬ M1.rg ds j = r)) (fun i => n - (intOf i).toNat)
  case atStart => exact ⟨0, Nat.zero_le _, rfl, fun j hj => absurd hj (Nat.not_lt_zero _)⟩
  case round =>
    obtain ⟨k, hk, rfl, hall⟩ := hrel
    by_cases hlt : k < n
    · rcases h1.hlies with h0 | ⟨b, off, rfl, hb, hc⟩
      · omega
      obtain ⟨c1, c2⟩ := hc k hlt
      clear hc
      have i0 : (0 : Int) ≤ (k : Int) := by omega
      have i1 : (k : Int) < (n : Int) := by omega
      by_cases hq : M1.rg ds k = r
      · have HQ : Hid (M1.lk ds r = M1.nm ds k) := (by rw [← hq]; exact M1.lk_at HV.out (by have := hl1.out; omega) : M1.lk ds r = M1.nm ds k)
        have hq1 : (M1.rg ds k == r) = true := by simp [hq]
        clear hq hall
        go_wp2
        go_ret
        exact ⟨by rw [HQ.out]; rfl, rfl⟩
      · have HQ : Hid (∀ j, j < k + 1 → ¬ M1.rg ds j = r) := fun j hj => by
          by_cases e : j = k
          · rw [e]; exact hq
          · exact hall.out j (by omega)
        have hq1 : (M1.rg ds k == r) = false := by simp [hq]
        clear hq hall
        go_wp2
        go_round
        case rel => exact ⟨k + 1, by omega, by go_num, HQ⟩
        case measure => simp [intOf]; omega
    · have HQ : Hid (M1.lk ds r = 0) := M1.lk_none fun j hj => hall.out j (by have := hl1.out; omega)
      clear hall
      go_wp2
      go_ret
      exact ⟨by rw [HQ.out]; rfl, rfl⟩

/-- What VecOf answers. -/
def ofP (ds : List (Int × Int)) (r : Int) : Int := if M1.vecOk ds = true then M1.lk ds r else -1

end Go.Proofs.YtbhidjagmonnaaaGreatDoor

namespace Go.Proofs.YtbhidjagmonnaaaGreatDoor
open Go.ChangeShapes Go.WideShapes Go.ChangeAt Go.RowKit

theorem idx0 (a b c d e : Int) (w : World) : Sem.run Tryz.prog (Instr.index 117 (.agg #[.int .i64 a, .int .i64 b, .int .i64 c, .int .i64 d, .int .i64 e]) (.int .i64 0)) w = .ok (.int .i64 a) w := by kernel_rfl
theorem idx1 (a b c d e : Int) (w : World) : Sem.run Tryz.prog (Instr.index 117 (.agg #[.int .i64 a, .int .i64 b, .int .i64 c, .int .i64 d, .int .i64 e]) (.int .i64 1)) w = .ok (.int .i64 b) w := by kernel_rfl
theorem idx2 (a b c d e : Int) (w : World) : Sem.run Tryz.prog (Instr.index 117 (.agg #[.int .i64 a, .int .i64 b, .int .i64 c, .int .i64 d, .int .i64 e]) (.int .i64 2)) w = .ok (.int .i64 c) w := by kernel_rfl
theorem idx3 (a b c d e : Int) (w : World) : Sem.run Tryz.prog (Instr.index 117 (.agg #[.int .i64 a, .int .i64 b, .int .i64 c, .int .i64 d, .int .i64 e]) (.int .i64 3)) w = .ok (.int .i64 d) w := by kernel_rfl
theorem idx4 (a b c d e : Int) (w : World) : Sem.run Tryz.prog (Instr.index 117 (.agg #[.int .i64 a, .int .i64 b, .int .i64 c, .int .i64 d, .int .i64 e]) (.int .i64 4)) w = .ok (.int .i64 e) w := by kernel_rfl

/-- What Covers answers. -/
def covP (a b : List (Int × Int)) : Bool := M1.vecOk a && M1.vecOk b && M1.covB a b

end Go.Proofs.YtbhidjagmonnaaaGreatDoor

namespace Go.Proofs.YtbhidjagmonnaaaGreatDoor
open Go.ChangeShapes Go.WideShapes Go.ChangeAt Go.RowKit

/-- What a call that makes a vector leaves: a row of its own. -/
def Joined (w w' : World) (e : Ending) (ds : List (Int × Int)) : Prop := ∃ v, e = .returned v ∧ w'.ownsRow w.heap.size 41 2 v ds.length (dcs ds)

end Go.Proofs.YtbhidjagmonnaaaGreatDoor
