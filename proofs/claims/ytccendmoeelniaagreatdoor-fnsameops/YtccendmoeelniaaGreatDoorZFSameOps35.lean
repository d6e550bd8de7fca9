/-
  Texts of one proof, joined: Rv3.
-/
import Derived.Test.YtccendmoeelniaaGreatDoorZFSameOps23
import Derived.Test.YtccendmoeelniaaGreatDoorZFSameOps29
import Derived.Test.YtccendmoeelniaaGreatDoorZFSameOps33
namespace M1
theorem rc_cases (r : Rg) (ys : List Upd) (now : Int) : (rOk r = false ∧ rcC r ys now = 1 ∧ rcR r ys now = zeroR) ∨ (rOk r = true ∧ (rcC r ys now = 2 ∨ rcC r ys now = 3 ∨ rcC r ys now = 4) ∧ rcR r ys now = r) ∨ (rOk r = true ∧ rcC r ys now = 0 ∧ rcR r ys now = rcN r ys now ∧ tOk r.us ys = true) := by
 cases q : rOk r with
 | false => exact .inl ⟨rfl, rc_1 q⟩
 | true =>
  cases q2 : rcF ys now with
  | true => have := rc_2 q q2; exact .inr (.inl ⟨rfl, .inl this.1, this.2⟩)
  | false =>
   cases q3 : tOk r.us ys with
   | false => have := rc_3 q q2 q3; exact .inr (.inl ⟨rfl, .inr (.inl this.1), this.2⟩)
   | true =>
    cases q4 : (mt r ys now).ok with
    | false => have := rc_4 q q2 q3 q4; exact .inr (.inl ⟨rfl, .inr (.inr this.1), this.2⟩)
    | true => have := rc_0 q q2 q3 q4; exact .inr (.inr ⟨rfl, this.1, this.2, rfl⟩)

end M1
namespace Go.Proofs.YtccendmoeelniaaGreatDoor
open Go.ChangeShapes Go.WideShapes Go.ChangeAt Go.RowKit
set_option linter.unusedSimpArgs false
set_option linter.unusedVariables false
def RgD (w w' : World) (v : Value) (r : M1.Rg) : Prop := ∃ av cap, v = .agg #[.int .i64 r.id, .int .i64 r.a, .int .i64 r.b, .int .i64 r.c, .slice av r.us.length cap] ∧ MU w' av r.us.length cap w.heap.size w'.heap.size (ucell r.us)

theorem err_some (w : World) (a : Addr) : (binOp .neq 82 (.iface 126 (.pointer (some a))) .nilIface).run Tryz.prog w = .ok (.bool true) w := by kernel_rfl

theorem err_none (w : World) : (binOp .neq 82 .nilIface .nilIface).run Tryz.prog w = .ok (.bool false) w := by kernel_rfl

theorem rOk_short {r : M1.Rg} (h : M1.rOk r = true) : (∀ i, i < r.us.length → (M1.up r.us i).s.size ≤ 1000) ∧ r.us.length ≤ 60 :=
 ⟨fun i hi => by have := M1.ok_txt (M1.okAt_ok (M1.setOk_all (M1.rOk_set h) i hi)); omega, M1.setOk_len (M1.rOk_set h)⟩

end Go.Proofs.YtccendmoeelniaaGreatDoor
