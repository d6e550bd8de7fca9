/-
  Texts of one proof, joined: Rv3, AppU.
-/
import Derived.Test.YtccendmoeelniaaGreatDoorZIssued26
import Derived.Test.YtccendmoeelniaaGreatDoorZIssued28
import Derived.Test.YtccendmoeelniaaGreatDoorZIssued33
import Derived.Test.YtccendmoeelniaaGreatDoorZIssued17
namespace M1
end M1
namespace Go.Proofs.YtccendmoeelniaaGreatDoor
open Go.ChangeShapes Go.WideShapes Go.ChangeAt Go.RowKit
set_option linter.unusedSimpArgs false
set_option linter.unusedVariables false
def RgD (w w' : World) (v : Value) (r : M1.Rg) : Prop := ∃ av cap, v = .agg #[.int .i64 r.id, .int .i64 r.a, .int .i64 r.b, .int .i64 r.c, .slice av r.us.length cap] ∧ MU w' av r.us.length cap w.heap.size w'.heap.size (ucell r.us)

theorem err_some (w : World) (a : Addr) : (binOp .neq 82 (.iface 126 (.pointer (some a))) .nilIface).run Tryz.prog w = .ok (.bool true) w := by kernel_rfl

theorem err_none (w : World) : (binOp .neq 82 .nilIface .nilIface).run Tryz.prog w = .ok (.bool false) w := by kernel_rfl

theorem rOk_short {r : M1.Rg} (h : M1.rOk r = true) : (∀ i, i < r.us.length → (M1.up r.us i).s.size ≤ 1000) ∧ r.us.length ≤ 60 :=
  ⟨fun i hi => by have := M1.ok_txt (M1.okAt_ok (M1.setOk_all (M1.rOk_set h) i hi)); omega, M1.setOk_len (M1.rOk_set h)⟩

end Go.Proofs.YtccendmoeelniaaGreatDoor

namespace Go.Proofs.YtccendmoeelniaaGreatDoor
open Go.ChangeShapes Go.WideShapes Go.ChangeAt Go.RowKit
set_option linter.unusedSimpArgs false
set_option linter.unusedVariables false
theorem wpList_appU {w : World} {ops : Array Oper} {rest : List Oper} {o : Oper} {a : Act} {Q : Exit → Act → World → Prop} (hw : Region.wanted o (yielded ops a.tmps) = true) (s x : Operand)
    (ho : o.op = .call { callee := .builtin .append, args := #[s, x], argTypes := #[26, 26] })
    (base : Nat) (xv : Option Addr) (xc n : Nat) (ns : List M1.Upd) (hn : ns.length = n) (hs : a.eval s = .slice xv n xc) (hown : w.ownsRow base 38 13 (.slice xv n xc) n (ucL ns))
    (yv : Option Addr) (m yc : Nat) (ys : List M1.Upd) (hx : a.eval x = .slice yv m yc) (hy : IsUpds w yv m yc ys) (hlen : n + m ≤ 1000000) (hbase : base ≤ w.heap.size)
    (h : ∀ av cap w', w'.ownsRow base 38 13 (.slice av (n + m) cap) (n + m) (ucL (ns ++ ys)) → Below base w w' → wpList Tryz.prog ops Q rest (a.put o.dst (.slice av (n + m) cap)) w') : wpList Tryz.prog ops Q (o :: rest) a w := by
  obtain ⟨ti, hi1, hi2, hi3, hi4⟩ := infoUpd
  refine wpList_step fun K hK => ?_
  rw [if_pos hw]
  by_cases hm0 : m = 0
  · subst hm0
    have hys : ys = [] := List.eq_nil_of_length_eq_zero hy.hlen
    subst hys
    have hrun := run_append_zero (P := Tryz.prog) (w := w) base 26 o.type 38 ti 13 Tryz.underlying26 hi1 (.slice xv n xc) n (ucL ns) hown yv yc
    unfold Oper.wp
    simp [execOp, ho, resolve, invoke, builtin, hs, hx, hrun, Result.andThen]
    refine hK _ _ (h xv xc w ?_ (Below.refl _ _))
    simpa using hown
  · rcases hy.hlies with h0 | ⟨b, off, rfl, hb, hc⟩
    · exact absurd h0 hm0
    have hnews : ∀ j u, (ucL ys)[j]? = some u → w.cell? ((⟨b, off, none⟩ : Addr).add j) = some u := by
      have := ucL_take_cells (w := w) (b := b) (off := off) (n := m) (us := ys) hc hy.hlen 0 m (by omega)
      have e : (ys.drop 0).take m = ys := by rw [List.drop_zero, ← hy.hlen, List.take_length]
      rw [e] at this
      simpa using this
    refine wp_append_lies w s x 26 ho base 38 ti _ 13 112 Tryz.underlying26 hi1 hi2 hi3 hi4 rfl (by omega) (.slice xv n xc) n (ucL ns) hs hown ⟨b, off, none⟩ m yc (ucL ys) hx (by rw [ucL_len, hy.hlen]) hnews (ucL_one ys) (by omega) (by unfold maxLen; omega) (by omega) hbase _ rfl ?_
    intro g cap w' hown' hgrow hat hlt
    refine hK _ _ (h _ _ _ ?_ ?_)
    · rw [ucL_app]; exact hown'
    · exact (Below.refl base w).grown hgrow hbase (owns_base hown)

end Go.Proofs.YtccendmoeelniaaGreatDoor
