/-
  Contracts of the laws' markText and markUpdateS.
-/
import Derived.Test.YtjgcjopijblpkaaDoorSet1
import Derived.Test.YtjgcjopijblpkaaDoorRdr
import Derived.Laws.BytesArg
namespace M1
open Go
/-- The text of a mark: its digits. -/
def mtF : Nat → Int → ByteArray → ByteArray
  | 0, _, acc => acc
  | f + 1, k, acc => if 0 < k then mtF f (k / 10) (strOfNums [48 + k % 10] ++ acc) else acc
theorem mtF_zero : ∀ (f : Nat) (acc : ByteArray), mtF f 0 acc = acc
  | 0, _ => rfl
  | f + 1, acc => by show (if (0 : Int) < 0 then _ else acc) = acc; rw [if_neg (by omega)]
theorem mtF_step (f : Nat) (k : Int) (acc : ByteArray) (h : 0 < k) : mtF (f + 1) k acc = mtF f (k / 10) (strOfNums [48 + k % 10] ++ acc) := by
  show (if 0 < k then _ else acc) = _; rw [if_pos h]
def mtext (k : Int) : ByteArray := if k ≤ 0 then ⟨#[109, 48]⟩ else ⟨#[109]⟩ ++ mtF 20 k ⟨#[]⟩
theorem strOfNums_one (z : Int) : (strOfNums [z]).size = 1 := rfl
theorem mtF_size : ∀ (f : Nat) (k : Int) (acc : ByteArray), (mtF f k acc).size ≤ acc.size + f
  | 0, _, acc => Nat.le_refl _
  | f + 1, k, acc => by
    by_cases h : 0 < k
    · rw [mtF_step f k acc h]
      have := mtF_size f (k / 10) (strOfNums [48 + k % 10] ++ acc)
      rw [ByteArray.size_append, strOfNums_one] at this
      omega
    · show (if 0 < k then _ else acc).size ≤ _
      rw [if_neg h]; omega
theorem mtext_size (k : Int) : (mtext k).size ≤ 30 := by
  unfold mtext
  split
  · decide
  · rw [ByteArray.size_append]
    have := mtF_size 20 k ⟨#[]⟩
    have e1 : (ByteArray.mk #[109]).size = 1 := rfl
    have e2 : (ByteArray.mk #[]).size = 0 := rfl
    omega
end M1
namespace Go.Proofs.YtjgcjopijblpkaaDoor
open Go.ChangeShapes Go.WideShapes Go.ChangeAt Go.RowKit
set_option linter.unusedSimpArgs false
set_option linter.unusedVariables false

/-- The cells of a row of updates that are marked from k on. -/
def mcell (k : Int) (o : Nat) : Value := if o % 13 = 9 then .string (M1.mtext (k + o)) else .int .i64 (k + o)
theorem mcell_int (k : Int) (o : Nat) (h : ¬ o % 13 = 9) : mcell k o = .int .i64 (k + o) := if_neg h
theorem mcell_str (k : Int) (o : Nat) (h : o % 13 = 9) : mcell k o = .string (M1.mtext (k + o)) := if_pos h

end Go.Proofs.YtjgcjopijblpkaaDoor
