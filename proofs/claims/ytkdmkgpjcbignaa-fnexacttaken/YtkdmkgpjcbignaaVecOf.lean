/-
  Contracts of l1Of and of VecOf, of the model and of the program.
-/
import Derived.Test.YtkdmkgpjcbignaaVecOkSpec
import Derived.Test.YtkdmkgpjcbignaaVecFrom
namespace Go.Proofs.Ytkdmkgpjcbignaa
open Go.ChangeShapes Go.WideShapes Go.ChangeAt Go.RowKit

set_option maxHeartbeats 1000000 in
theorem l1Of_any (av : Option Addr) (n cn : Nat) (ds : List (Int × Int)) (r : Int) (w : World) (h1 : IsVec w av n cn ds) (hv : M1.vecOk ds = true) :
    Calls Try.prog 78 #[.slice av n cn, .int .i64 r] w fun e w' => e = .returned (.int .i64 (M1.lk ds r)) ∧ w' = w := by
  have hl1 : Hid (ds.length = n) := h1.hlen
  have HV : Hid (M1.vecOk ds = true) := hv
  clear hv
  have hm1 := h1.hcap
  have hm2 := h1.hmost
  unfold maxLen at hm2
  go_enter Try.func78, Try.ntmps78
  go_wp2
  go_loop [5] (fun i => ∃ k : Nat, k ≤ n ∧ i = .int .i64 k ∧ Hid (∀ j, j < k → ¬ M1.rg ds j = r)) (fun i => n - (intOf i).toNat)
  case atStart => exact ⟨0, Nat.zero_le _, rfl, fun j hj => absurd hj (Nat.not_lt_zero _)⟩
  case round =>
    obtain ⟨k, hk, rfl, hall⟩ := hrel
    by_cases hlt : k < n
    · rcases h1.hlies with h0 | ⟨b, off, rfl, hb, hc⟩
      · omega
      obtain ⟨c1, c2⟩ := hc k hlt
      clear hc
      have i0 : (0 : Int) ≤ (k : Int) := by omega
      have i1 : (k : Int) < (n : Int) := by omega
      by_cases hq : M1.rg ds k = r
      · have HQ : Hid (M1.lk ds r = M1.nm ds k) := (by rw [← hq]; exact M1.lk_at HV.out (by have := hl1.out; omega) : M1.lk ds r = M1.nm ds k)
        have hq1 : (M1.rg ds k == r) = true := by simp [hq]
        clear hq hall
        go_wp2
        go_ret
        exact ⟨by rw [HQ.out]; rfl, rfl⟩
      · have HQ : Hid (∀ j, j < k + 1 → ¬ M1.rg ds j = r) := fun j hj => by
          by_cases e : j = k
          · rw [e]; exact hq
          · exact hall.out j (by omega)
        have hq1 : (M1.rg ds k == r) = false := by simp [hq]
        clear hq hall
        go_wp2
        go_round
        case rel => exact ⟨k + 1, by omega, by go_num, HQ⟩
        case measure => simp [intOf]; omega
    · have HQ : Hid (M1.lk ds r = 0) := M1.lk_none fun j hj => hall.out j (by have := hl1.out; omega)
      clear hall
      go_wp2
      go_ret
      exact ⟨by rw [HQ.out]; rfl, rfl⟩

/-- What VecOf answers. -/
def ofP (ds : List (Int × Int)) (r : Int) : Int := if M1.vecOk ds = true then M1.lk ds r else -1

end Go.Proofs.Ytkdmkgpjcbignaa
