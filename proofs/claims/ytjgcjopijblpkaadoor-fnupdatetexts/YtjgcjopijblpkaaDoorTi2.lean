/-
  Rows of numbers by append; the contracts of the model's l4Has and l4Put.
-/
import Derived.Test.YtjgcjopijblpkaaDoorTi1
import Derived.Test.YtjgcjopijblpkaaDoorMath9
import Derived.Test.YtjgcjopijblpkaaDoorPut
namespace Go.Proofs.YtjgcjopijblpkaaDoor
open Go.ChangeShapes Go.WideShapes Go.ChangeAt Go.RowKit
set_option linter.unusedSimpArgs false
set_option linter.unusedVariables false

theorem infoI0 : (Tryd.prog.info? 2).map (fun i => (i.zero, i.size, i.bytes)) = some (some (.int .i64 0), 1, 8) := by kernel_rfl
theorem infoI : ∃ i, Tryd.prog.info? 2 = some i ∧ i.zero = some (.int .i64 0) ∧ i.size = 1 ∧ i.bytes = 8 := by
  have h := infoI0
  cases e : Tryd.prog.info? 2 with
  | none => rw [e] at h; cases h
  | some i => rw [e] at h; simp at h; exact ⟨i, rfl, h.1, h.2.1, h.2.2⟩
def iL (zs : List Int) : List Value := zs.map (Value.int .i64)
theorem iL_len (zs : List Int) : (iL zs).length = zs.length * 1 := by simp [iL]
theorem iL_get (zs : List Int) (o : Nat) (h : o < zs.length * 1) : (iL zs).getD o undef = icell zs o := by
  have h' : o < zs.length := by omega
  simp [iL, icell, List.getD, h']
theorem iL_one (zs : List Int) : ∀ v ∈ iL zs, v.oneCell' = true := by
  intro v hv
  simp [iL] at hv
  obtain ⟨x, _, rfl⟩ := hv
  rfl
theorem MI.of_owns {w : World} {base n : Nat} {e : TypeId} {av : Option Addr} {cap : Nat} {zs : List Int} (hl : zs.length = n) (h : w.ownsRow base e 1 (.slice av n cap) n (iL zs)) : MI w av n cap base w.heap.size (icell zs) := by
  have h0 := h
  obtain ⟨h1, h2⟩ := h
  rcases h2 with ⟨e1, h3⟩ | ⟨g, cap', cur, e1, hg, hh, hn, hm, hs, ht⟩
  · injection e1 with a1 a2 a3; subst a1; subst a3
    exact ⟨by omega, by unfold maxLen; omega, Or.inl ⟨h3, rfl⟩⟩
  · injection e1 with a1 a2 a3; subst a1; subst a3
    have hr := (RowAt.of_owns h0).same fun o ho => iL_get zs o (by rw [hl]; exact ho)
    rw [Nat.mul_one] at hr
    exact ⟨hn, hm, Or.inr ⟨g, rfl, hg, hr.lt, hr⟩⟩
theorem ownsI_empty (w : World) (e : TypeId) : (w.alloc (.cells #[] e)).ownsRow w.heap.size e 1 (.slice (some ⟨w.heap.size, 0, none⟩) 0 0) 0 (iL []) := by
  refine ⟨rfl, Or.inr ⟨w.heap.size, 0, #[], rfl, Nat.le_refl _, ?_, Nat.le_refl _, by unfold maxLen; omega, rfl, rfl⟩⟩
  show (w.heap.push (.cells #[] e))[w.heap.size]? = _
  simp

/-- The m numbers ys lie where the slice says. -/
def SrcI (w : World) (yv : Option Addr) (m : Nat) (ys : List Int) : Prop := ys.length = m ∧ (m = 0 ∨ ∃ b off, yv = some ⟨b, off, none⟩ ∧ ∀ j, j < m → w.cell? ⟨b, off + j, none⟩ = some (.int .i64 (ys.getD j 0)))

theorem src_one (w : World) (x : Int) (t : TypeId) : SrcI (w.alloc (.cells #[.int .i64 x] t)) (some ⟨w.heap.size, 0, none⟩) 1 [x] :=
  ⟨rfl, Or.inr ⟨w.heap.size, 0, rfl, fun j hj => by
    have e : j = 0 := by omega
    subst e; simp⟩⟩

theorem wpList_appI {w : World} {ops : Array Oper} {rest : List Oper} {o : Oper} {a : Act} {Q : Exit → Act → World → Prop} (hw : Region.wanted o (yielded ops a.tmps) = true) (s x : Operand)
    (ho : o.op = .call { callee := .builtin .append, args := #[s, x], argTypes := #[69, 69] })
    (base : Nat) (xv : Option Addr) (xc n : Nat) (ns : List Int) (hn : ns.length = n) (hs : a.eval s = .slice xv n xc) (hown : w.ownsRow base 2 1 (.slice xv n xc) n (iL ns))
    (yv : Option Addr) (m yc : Nat) (ys : List Int) (hx : a.eval x = .slice yv m yc) (hy : SrcI w yv m ys) (hlen : n + m ≤ 100000000) (hbase : base ≤ w.heap.size)
    (h : ∀ av cap w', w'.ownsRow base 2 1 (.slice av (n + m) cap) (n + m) (iL (ns ++ ys)) → Below base w w' → wpList Tryd.prog ops Q rest (a.put o.dst (.slice av (n + m) cap)) w') : wpList Tryd.prog ops Q (o :: rest) a w := by
  obtain ⟨ti, hi1, hi2, hi3, hi4⟩ := infoI
  refine wpList_step fun K hK => ?_
  rw [if_pos hw]
  by_cases hm0 : m = 0
  · subst hm0
    have hys : ys = [] := List.eq_nil_of_length_eq_zero hy.1
    subst hys
    have hrun := run_append_zero (P := Tryd.prog) (w := w) base 69 o.type 2 ti 1 Tryd.underlying69 hi1 (.slice xv n xc) n (iL ns) hown yv yc
    unfold Oper.wp
    simp [execOp, ho, resolve, invoke, builtin, hs, hx, hrun, Result.andThen]
    refine hK _ _ (h xv xc w ?_ (Below.refl _ _))
    simpa using hown
  · rcases hy.2 with h0 | ⟨b, off, rfl, hc⟩
    · exact absurd h0 hm0
    have hnews : ∀ j u, (iL ys)[j]? = some u → w.cell? ((⟨b, off, none⟩ : Addr).add j) = some u := by
      intro j u hu
      have hj : j < m := by
        rw [← hy.1]
        have := (List.getElem?_eq_some_iff.1 hu).1
        simpa [iL] using this
      have e := hc j hj
      have e2 : (⟨b, off, none⟩ : Addr).add j = ⟨b, off + j, none⟩ := by unfold Addr.add; split <;> simp_all
      rw [e2, e]
      have hj2 : j < ys.length := by rw [hy.1]; exact hj
      simp [iL, hj2] at hu
      rw [← hu]
      simp [List.getD, hj2]
    refine wp_append_lies w s x 69 ho base 2 ti _ 1 8 Tryd.underlying69 hi1 hi2 hi3 hi4 rfl (by omega) (.slice xv n xc) n (iL ns) hs hown ⟨b, off, none⟩ m yc (iL ys) hx (by rw [iL_len, hy.1]) hnews (iL_one ys) (by omega) (by unfold maxLen; omega) (by omega) hbase _ rfl ?_
    intro g cap w' hown' hgrow hat hlt
    refine hK _ _ (h _ _ _ ?_ ?_)
    · have e : iL (ns ++ ys) = iL ns ++ iL ys := by simp [iL]
      rw [e]; exact hown'
    · exact (Below.refl base w).grown hgrow hbase (owns_base hown)

theorem getD_mem {zs : List Int} {i : Nat} (h : i < zs.length) : zs.getD i 0 ∈ zs := by
  have : zs.getD i 0 = zs[i] := by simp [List.getD, h]
  rw [this]; exact List.getElem_mem h

/-- Whether the number is among them. -/
def HasW (e : Ending) (zs : List Int) (x : Int) : Prop := ∃ b : Bool, e = .returned (.bool b) ∧ (b = true ↔ x ∈ zs)

/-- A list with one number more, where it belongs. -/
def PutW (w' : World) (e : Ending) (lo : Nat) (zs : List Int) (x : Int) : Prop := ∃ (av : Option Addr) (cap : Nat) (r : List Int), e = .returned (.slice av r.length cap) ∧ M1.PutI zs x r ∧ MI w' av r.length cap lo w'.heap.size (icell r)

end Go.Proofs.YtjgcjopijblpkaaDoor
