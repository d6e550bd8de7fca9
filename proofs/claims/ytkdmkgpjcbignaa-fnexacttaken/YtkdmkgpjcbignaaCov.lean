/-
  Contracts of Covers, of the model and of the program.
-/
import Derived.Test.YtkdmkgpjcbignaaVecOf
namespace Go.Proofs.Ytkdmkgpjcbignaa
open Go.ChangeShapes Go.WideShapes Go.ChangeAt Go.RowKit

theorem idx0 (a b c d e : Int) (w : World) : Sem.run Try.prog (Instr.index 63 (.agg #[.int .i64 a, .int .i64 b, .int .i64 c, .int .i64 d, .int .i64 e]) (.int .i64 0)) w = .ok (.int .i64 a) w := by kernel_rfl
theorem idx1 (a b c d e : Int) (w : World) : Sem.run Try.prog (Instr.index 63 (.agg #[.int .i64 a, .int .i64 b, .int .i64 c, .int .i64 d, .int .i64 e]) (.int .i64 1)) w = .ok (.int .i64 b) w := by kernel_rfl
theorem idx2 (a b c d e : Int) (w : World) : Sem.run Try.prog (Instr.index 63 (.agg #[.int .i64 a, .int .i64 b, .int .i64 c, .int .i64 d, .int .i64 e]) (.int .i64 2)) w = .ok (.int .i64 c) w := by kernel_rfl
theorem idx3 (a b c d e : Int) (w : World) : Sem.run Try.prog (Instr.index 63 (.agg #[.int .i64 a, .int .i64 b, .int .i64 c, .int .i64 d, .int .i64 e]) (.int .i64 3)) w = .ok (.int .i64 d) w := by kernel_rfl
theorem idx4 (a b c d e : Int) (w : World) : Sem.run Try.prog (Instr.index 63 (.agg #[.int .i64 a, .int .i64 b, .int .i64 c, .int .i64 d, .int .i64 e]) (.int .i64 4)) w = .ok (.int .i64 e) w := by kernel_rfl

/-- What Covers answers. -/
def covP (a b : List (Int × Int)) : Bool := M1.vecOk a && M1.vecOk b && M1.covB a b

end Go.Proofs.Ytkdmkgpjcbignaa