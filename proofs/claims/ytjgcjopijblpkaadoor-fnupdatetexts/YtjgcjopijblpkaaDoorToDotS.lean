/-
  A slice of dots is copied cell by cell: the contract of the laws' toDotS.
-/
import Derived.Test.YtjgcjopijblpkaaDoorVec1
import Derived.Test.YtjgcjopijblpkaaDoorRow
namespace Go.Proofs.YtjgcjopijblpkaaDoor
open Go.ChangeShapes Go.WideShapes Go.ChangeAt Go.RowKit

/-- The cells of a row of dots. -/
def dcell (ds : List (Int × Int)) (o : Nat) : Value := if o % 2 = 0 then .int .i64 (M1.rg ds (o / 2)) else .int .i64 (M1.nm ds (o / 2))
theorem dcell_even (ds : List (Int × Int)) (k : Nat) : dcell ds (k * 2) = .int .i64 (M1.rg ds k) := by
  unfold dcell; rw [if_pos (by omega), show k * 2 / 2 = k from by omega]
theorem dcell_odd (ds : List (Int × Int)) (k : Nat) : dcell ds (k * 2 + 1) = .int .i64 (M1.nm ds k) := by
  unfold dcell; rw [if_neg (by omega), show (k * 2 + 1) / 2 = k from by omega]

theorem isVec_of_row {w : World} {g n cap : Nat} {ds : List (Int × Int)} (hl : ds.length = n) (hc : n ≤ cap) (hm : cap ≤ maxLen) (h : RowAt w g (n * 2) (dcell ds)) : IsVec w (some ⟨g, 0, none⟩) n cap ds :=
  ⟨hl, hc, hm, Or.inr ⟨g, 0, rfl, h.lt, fun i hi => ⟨by rw [Nat.zero_add, h.cell (by omega), dcell_even], by rw [Nat.zero_add, h.cell (by omega), dcell_odd]⟩⟩⟩

theorem infoDot0 : (Tryd.prog.info? 25).map (fun i => (i.zero, i.size, i.bytes)) = some (some (.agg #[.int .i64 0, .int .i64 0]), 2, 16) := by kernel_rfl
theorem infoDot : ∃ i, Tryd.prog.info? 25 = some i ∧ i.zero = some (.agg #[.int .i64 0, .int .i64 0]) ∧ i.size = 2 ∧ i.bytes = 16 := by
  have h := infoDot0
  cases e : Tryd.prog.info? 25 with
  | none => rw [e] at h; cases h
  | some i => rw [e] at h; simp at h; exact ⟨i, rfl, h.1, h.2.1, h.2.2⟩

end Go.Proofs.YtjgcjopijblpkaaDoor
