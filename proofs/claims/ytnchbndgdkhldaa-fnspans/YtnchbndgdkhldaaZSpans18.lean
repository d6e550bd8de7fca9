/-
  Texts of one proof, joined: VecOkSpec, VecFrom, VecOf, Cov, ToDotS.
-/
import Derived.Test.YtnchbndgdkhldaaZSpans07
import Derived.Test.YtnchbndgdkhldaaZSpans00
namespace Go.Proofs.Ytnchbndgdkhldaa
open Go.ChangeShapes Go.WideShapes Go.ChangeAt Go.RowKit
set_option linter.unusedSimpArgs false

end Go.Proofs.Ytnchbndgdkhldaa

namespace Go.Proofs.Ytnchbndgdkhldaa
open Go.ChangeShapes Go.WideShapes Go.ChangeAt Go.RowKit
set_option linter.unusedSimpArgs false

end Go.Proofs.Ytnchbndgdkhldaa

namespace Go.Proofs.Ytnchbndgdkhldaa
open Go.ChangeShapes Go.WideShapes Go.ChangeAt Go.RowKit

set_option maxHeartbeats 1000000 in
theorem l1Of_any (av : Option Addr) (n cn : Nat) (ds : List (Int × Int)) (r : Int) (w : World) (h1 : IsVec w av n cn ds) (hv : M1.vecOk ds = true) :
    Calls Try.prog 60 #[.slice av n cn, .int .i64 r] w fun e w' => e = .returned (.int .i64 (M1.lk ds r)) ∧ w' = w := by
  have hl1 : Hid (ds.length = n) := h1.hlen
  have HV : Hid (M1.vecOk ds = true) := hv
  clear hv
  have hm1 := h1.hcap
  have hm2 := h1.hmost
  unfold maxLen at hm2
  go_enter Try.func60, Try.ntmps60
  go_wp2
  go_loop [5] (fun i => ∃ k : Nat, k ≤ n ∧ i = .int .i64 k ∧ Hid (∀ j, j < k → ¬ M1.rg ds j = r)) (fun i => n - (intOf i).toNat)
  case atStart => exact ⟨0, Nat.zero_le _, rfl, fun j hj => absurd hj (Nat.not_lt_zero _)⟩
  case round =>
    obtain ⟨k, hk, rfl, hall⟩ := hrel
    by_cases hlt : k < n
    · rcases h1.hlies with h0 | ⟨b, off, rfl, hb, hc⟩
      · omega
      obtain ⟨c1, c2⟩ := hc k hlt
      clear hc
      have i0 : (0 : Int) ≤ (k : Int) := by omega
      have i1 : (k : Int) < (n : Int) := by omega
      by_cases hq : M1.rg ds k = r
      · have HQ : Hid (M1.lk ds r = M1.nm ds k) := (by rw [← hq]; exact M1.lk_at HV.out (by have := hl1.out; omega) : M1.lk ds r = M1.nm ds k)
        have hq1 : (M1.rg ds k == r) = true := by simp [hq]
        clear hq hall
        go_wp2
        go_ret
        exact ⟨by rw [HQ.out]; rfl, rfl⟩
      · have HQ : Hid (∀ j, j < k + 1 → ¬ M1.rg ds j = r) := fun j hj => by
          by_cases e : j = k
          · rw [e]; exact hq
          · exact hall.out j (by omega)
        have hq1 : (M1.rg ds k == r) = false := by simp [hq]
        clear hq hall
        go_wp2
        go_round
        case rel => exact ⟨k + 1, by omega, by go_num, HQ⟩
        case measure => simp [intOf]; omega
    · have HQ : Hid (M1.lk ds r = 0) := M1.lk_none fun j hj => hall.out j (by have := hl1.out; omega)
      clear hall
      go_wp2
      go_ret
      exact ⟨by rw [HQ.out]; rfl, rfl⟩

/-- What VecOf answers. -/
def ofP (ds : List (Int × Int)) (r : Int) : Int := if M1.vecOk ds = true then M1.lk ds r else -1

end Go.Proofs.Ytnchbndgdkhldaa

namespace Go.Proofs.Ytnchbndgdkhldaa
open Go.ChangeShapes Go.WideShapes Go.ChangeAt Go.RowKit

/-- What Covers answers. -/
def covP (a b : List (Int × Int)) : Bool := M1.vecOk a && M1.vecOk b && M1.covB a b

end Go.Proofs.Ytnchbndgdkhldaa

namespace Go.Proofs.Ytnchbndgdkhldaa
open Go.ChangeShapes Go.WideShapes Go.ChangeAt Go.RowKit

/-- The cells of a row of dots. -/
def dcell (ds : List (Int × Int)) (o : Nat) : Value := if o % 2 = 0 then .int .i64 (M1.rg ds (o / 2)) else .int .i64 (M1.nm ds (o / 2))
theorem dcell_even (ds : List (Int × Int)) (k : Nat) : dcell ds (k * 2) = .int .i64 (M1.rg ds k) := by
  unfold dcell; rw [if_pos (by omega), show k * 2 / 2 = k from by omega]
theorem dcell_odd (ds : List (Int × Int)) (k : Nat) : dcell ds (k * 2 + 1) = .int .i64 (M1.nm ds k) := by
  unfold dcell; rw [if_neg (by omega), show (k * 2 + 1) / 2 = k from by omega]

theorem isVec_of_row {w : World} {g n cap : Nat} {ds : List (Int × Int)} (hl : ds.length = n) (hc : n ≤ cap) (hm : cap ≤ maxLen) (h : RowAt w g (n * 2) (dcell ds)) : IsVec w (some ⟨g, 0, none⟩) n cap ds :=
  ⟨hl, hc, hm, Or.inr ⟨g, 0, rfl, h.lt, fun i hi => ⟨by rw [Nat.zero_add, h.cell (by omega), dcell_even], by rw [Nat.zero_add, h.cell (by omega), dcell_odd]⟩⟩⟩

theorem infoDot0 : (Try.prog.info? 32).map (fun i => (i.zero, i.size, i.bytes)) = some (some (.agg #[.int .i64 0, .int .i64 0]), 2, 16) := by kernel_rfl
theorem infoDot : ∃ i, Try.prog.info? 32 = some i ∧ i.zero = some (.agg #[.int .i64 0, .int .i64 0]) ∧ i.size = 2 ∧ i.bytes = 16 := by
  have h := infoDot0
  cases e : Try.prog.info? 32 with
  | none => rw [e] at h; cases h
  | some i => rw [e] at h; simp at h; exact ⟨i, rfl, h.1, h.2.1, h.2.2⟩

end Go.Proofs.Ytnchbndgdkhldaa
