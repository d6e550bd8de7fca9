/-
  Texts of one proof, joined: Is5, AppU.
-/
import Derived.Test.YtccendmoeelniaaGreatDoorZReceived31
import Derived.Test.YtccendmoeelniaaGreatDoorZReceived32
import Derived.Test.YtccendmoeelniaaGreatDoorZReceived21
import Derived.Test.YtccendmoeelniaaGreatDoorZReceived10
namespace M1
theorem is_cases (r : Rg) (o : OpV) (now : Int) : (rOk r = false ∧ isC r o now = 1 ∧ isR r o now = zeroR ∧ isU r o now = zeroU) ∨ (rOk r = true ∧ (isC r o now = 2 ∨ isC r o now = 3 ∨ isC r o now = 4 ∨ isC r o now = 5) ∧ isR r o now = r ∧ isU r o now = zeroU) ∨ (rOk r = true ∧ isC r o now = 0 ∧ isR r o now = isN r o now ∧ isU r o now = nuU r o now ∧ tOk r.us [nuU r o now] = true) := by
  cases q : rOk r with
  | false => exact .inl ⟨rfl, is_1 q⟩
  | true =>
    cases q2 : isF o now with
    | true => have := is_2 q q2; exact .inr (.inl ⟨rfl, .inl this.1, this.2⟩)
    | false =>
      cases q3 : letsB r.us o with
      | false => have := is_5 q q2 q3; exact .inr (.inl ⟨rfl, .inr (.inr (.inr this.1)), this.2⟩)
      | true =>
        cases q4 : (tk r now).ok with
        | false => have := is_4 q q2 q3 q4; exact .inr (.inl ⟨rfl, .inr (.inr (.inl this.1)), this.2⟩)
        | true =>
          cases q5 : tOk r.us [nuU r o now] with
          | false => have := is_3 q q2 q3 q4 q5; exact .inr (.inl ⟨rfl, .inr (.inl this.1), this.2⟩)
          | true => have := is_0 q q2 q3 q4 q5; exact .inr (.inr ⟨rfl, this.1, this.2.1, this.2.2, rfl⟩)

end M1
namespace Go.Proofs.YtccendmoeelniaaGreatDoor
open Go.ChangeShapes Go.WideShapes Go.ChangeAt Go.RowKit
set_option linter.unusedSimpArgs false
set_option linter.unusedVariables false
theorem far5 {w : World} {k m z : Nat} {f : Nat → Value} (h : RowAt w k m f) (hn : ¬ z = k) (v0 v1 v2 v3 v4 : Value) : RowAt (((((w.setCell ⟨z, 0, none⟩ (v0)).setCell ⟨z, 1, none⟩ (v1)).setCell ⟨z, 2, none⟩ (v2)).setCell ⟨z, 3, none⟩ (v3)).setCell ⟨z, 4, none⟩ (v4)) k m f :=
  ((((h.far (p := ⟨z, 0, none⟩) hn v0).far (p := ⟨z, 1, none⟩) hn v1).far (p := ⟨z, 2, none⟩) hn v2).far (p := ⟨z, 3, none⟩) hn v3).far (p := ⟨z, 4, none⟩) hn v4

theorem sz13 (w : World) (z : Nat) (u : M1.Upd) : w.heap.size ≤ (((((((((((((w.setCell ⟨z, 0, none⟩ (.int .i64 u.dr)).setCell ⟨z, 1, none⟩ (.int .i64 u.dn)).setCell ⟨z, 2, none⟩ (.int .i64 u.sw)).setCell ⟨z, 3, none⟩ (.int .i64 u.sc)).setCell ⟨z, 4, none⟩ (.int .i64 u.sr)).setCell ⟨z, 5, none⟩ (.int .i64 u.k)).setCell ⟨z, 6, none⟩ (.int .i64 u.tr)).setCell ⟨z, 7, none⟩ (.int .i64 u.id)).setCell ⟨z, 8, none⟩ (.int .i64 u.pa)).setCell ⟨z, 9, none⟩ (.string u.s)).setCell ⟨z, 10, none⟩ (.int .i64 u.st)).setCell ⟨z, 11, none⟩ (.int .i64 u.en)).setCell ⟨z, 12, none⟩ (.int .i64 u.lv)).heap.size := (bel_put (Below.refl 0 w) (Nat.zero_le z) u).size

theorem mu_low {w : World} {av : Option Addr} {n cap lo lo' hi : Nat} {f : Nat → Value} (h : MU w av n cap lo hi f) (hl : lo' ≤ lo) : MU w av n cap lo' hi f :=
  ⟨h.1, h.2.1, h.2.2.imp (fun h => h) fun ⟨g, e, h1, h2, r⟩ => ⟨g, e, by omega, h2, r⟩⟩

theorem mu_high {w : World} {av : Option Addr} {n cap lo hi hi' : Nat} {f : Nat → Value} (h : MU w av n cap lo hi f) (hl : hi ≤ hi') : MU w av n cap lo hi' f :=
  ⟨h.1, h.2.1, h.2.2.imp (fun h => h) fun ⟨g, e, h1, h2, r⟩ => ⟨g, e, h1, by omega, r⟩⟩

theorem mu_both {w : World} {av : Option Addr} {n cap lo z y : Nat} {f : Nat → Value} (h : MU w av n cap lo w.heap.size f) (hz : ∀ q, av = some q → ¬ q.block = z) (hy : y < lo) (v0 v1 v2 v3 v4 : Value) (u : M1.Upd) : MU ((((((((((((((((((w.setCell ⟨z, 0, none⟩ (v0)).setCell ⟨z, 1, none⟩ (v1)).setCell ⟨z, 2, none⟩ (v2)).setCell ⟨z, 3, none⟩ (v3)).setCell ⟨z, 4, none⟩ (v4)).setCell ⟨y, 0, none⟩ (.int .i64 u.dr)).setCell ⟨y, 1, none⟩ (.int .i64 u.dn)).setCell ⟨y, 2, none⟩ (.int .i64 u.sw)).setCell ⟨y, 3, none⟩ (.int .i64 u.sc)).setCell ⟨y, 4, none⟩ (.int .i64 u.sr)).setCell ⟨y, 5, none⟩ (.int .i64 u.k)).setCell ⟨y, 6, none⟩ (.int .i64 u.tr)).setCell ⟨y, 7, none⟩ (.int .i64 u.id)).setCell ⟨y, 8, none⟩ (.int .i64 u.pa)).setCell ⟨y, 9, none⟩ (.string u.s)).setCell ⟨y, 10, none⟩ (.int .i64 u.st)).setCell ⟨y, 11, none⟩ (.int .i64 u.en)).setCell ⟨y, 12, none⟩ (.int .i64 u.lv)) av n cap lo ((((((((((((((((((w.setCell ⟨z, 0, none⟩ (v0)).setCell ⟨z, 1, none⟩ (v1)).setCell ⟨z, 2, none⟩ (v2)).setCell ⟨z, 3, none⟩ (v3)).setCell ⟨z, 4, none⟩ (v4)).setCell ⟨y, 0, none⟩ (.int .i64 u.dr)).setCell ⟨y, 1, none⟩ (.int .i64 u.dn)).setCell ⟨y, 2, none⟩ (.int .i64 u.sw)).setCell ⟨y, 3, none⟩ (.int .i64 u.sc)).setCell ⟨y, 4, none⟩ (.int .i64 u.sr)).setCell ⟨y, 5, none⟩ (.int .i64 u.k)).setCell ⟨y, 6, none⟩ (.int .i64 u.tr)).setCell ⟨y, 7, none⟩ (.int .i64 u.id)).setCell ⟨y, 8, none⟩ (.int .i64 u.pa)).setCell ⟨y, 9, none⟩ (.string u.s)).setCell ⟨y, 10, none⟩ (.int .i64 u.st)).setCell ⟨y, 11, none⟩ (.int .i64 u.en)).setCell ⟨y, 12, none⟩ (.int .i64 u.lv)).heap.size f :=
  mu_high (mu_put13 (mu_put5 h hz v0 v1 v2 v3 v4) hy u) (sz13 _ y u)

def IsS (w w' : World) (e : Ending) (r : M1.Rg) (x : M1.OpV) (now : Int) : Prop := ∃ v, e = .returned (.tuple #[v, .agg #[.int .i64 (M1.isU r x now).dr, .int .i64 (M1.isU r x now).dn, .int .i64 (M1.isU r x now).sw, .int .i64 (M1.isU r x now).sc, .int .i64 (M1.isU r x now).sr, .int .i64 (M1.isU r x now).k, .int .i64 (M1.isU r x now).tr, .int .i64 (M1.isU r x now).id, .int .i64 (M1.isU r x now).pa, .string (M1.isU r x now).s, .int .i64 (M1.isU r x now).st, .int .i64 (M1.isU r x now).en, .int .i64 (M1.isU r x now).lv], .int .i64 (M1.isC r x now)]) ∧ RgD w w' v (M1.isR r x now)

end Go.Proofs.YtccendmoeelniaaGreatDoor

namespace Go.Proofs.YtccendmoeelniaaGreatDoor
open Go.ChangeShapes Go.WideShapes Go.ChangeAt Go.RowKit
set_option linter.unusedSimpArgs false
set_option linter.unusedVariables false
theorem wpList_appU {w : World} {ops : Array Oper} {rest : List Oper} {o : Oper} {a : Act} {Q : Exit → Act → World → Prop} (hw : Region.wanted o (yielded ops a.tmps) = true) (s x : Operand)
    (ho : o.op = .call { callee := .builtin .append, args := #[s, x], argTypes := #[26, 26] })
    (base : Nat) (xv : Option Addr) (xc n : Nat) (ns : List M1.Upd) (hn : ns.length = n) (hs : a.eval s = .slice xv n xc) (hown : w.ownsRow base 38 13 (.slice xv n xc) n (ucL ns))
    (yv : Option Addr) (m yc : Nat) (ys : List M1.Upd) (hx : a.eval x = .slice yv m yc) (hy : IsUpds w yv m yc ys) (hlen : n + m ≤ 1000000) (hbase : base ≤ w.heap.size)
    (h : ∀ av cap w', w'.ownsRow base 38 13 (.slice av (n + m) cap) (n + m) (ucL (ns ++ ys)) → Below base w w' → wpList Tryz.prog ops Q rest (a.put o.dst (.slice av (n + m) cap)) w') : wpList Tryz.prog ops Q (o :: rest) a w := by
  obtain ⟨ti, hi1, hi2, hi3, hi4⟩ := infoUpd
  refine wpList_step fun K hK => ?_
  rw [if_pos hw]
  by_cases hm0 : m = 0
  · subst hm0
    have hys : ys = [] := List.eq_nil_of_length_eq_zero hy.hlen
    subst hys
    have hrun := run_append_zero (P := Tryz.prog) (w := w) base 26 o.type 38 ti 13 Tryz.underlying26 hi1 (.slice xv n xc) n (ucL ns) hown yv yc
    unfold Oper.wp
    simp [execOp, ho, resolve, invoke, builtin, hs, hx, hrun, Result.andThen]
    refine hK _ _ (h xv xc w ?_ (Below.refl _ _))
    simpa using hown
  · rcases hy.hlies with h0 | ⟨b, off, rfl, hb, hc⟩
    · exact absurd h0 hm0
    have hnews : ∀ j u, (ucL ys)[j]? = some u → w.cell? ((⟨b, off, none⟩ : Addr).add j) = some u := by
      have := ucL_take_cells (w := w) (b := b) (off := off) (n := m) (us := ys) hc hy.hlen 0 m (by omega)
      have e : (ys.drop 0).take m = ys := by rw [List.drop_zero, ← hy.hlen, List.take_length]
      rw [e] at this
      simpa using this
    refine wp_append_lies w s x 26 ho base 38 ti _ 13 112 Tryz.underlying26 hi1 hi2 hi3 hi4 rfl (by omega) (.slice xv n xc) n (ucL ns) hs hown ⟨b, off, none⟩ m yc (ucL ys) hx (by rw [ucL_len, hy.hlen]) hnews (ucL_one ys) (by omega) (by unfold maxLen; omega) (by omega) hbase _ rfl ?_
    intro g cap w' hown' hgrow hat hlt
    refine hK _ _ (h _ _ _ ?_ ?_)
    · rw [ucL_app]; exact hown'
    · exact (Below.refl base w).grown hgrow hbase (owns_base hown)

end Go.Proofs.YtccendmoeelniaaGreatDoor
