/-
  The contract of the model's l3Put: a list of updates with one more, in the order of their dots.
-/
import Derived.Test.YtjgcjopijblpkaaDoorOwnU
import Derived.Test.YtjgcjopijblpkaaDoorDotA
import Derived.Laws.AppendOwnNone
namespace M1
/-- ns is us with u put before the first update that is not ahead of u's dot (or as it was where that one has u's dot). -/
def PutR (us : List Upd) (u : Upd) (ns : List Upd) : Prop :=
  ∃ k, k ≤ us.length ∧ (∀ j, j < k → dahead (up us j).dr (up us j).dn u.dr u.dn = true) ∧ (k = us.length ∨ dahead (up us k).dr (up us k).dn u.dr u.dn = false) ∧
    ((k < us.length ∧ (up us k).dr = u.dr ∧ (up us k).dn = u.dn ∧ ns = us.take k ++ us.drop k) ∨ ((¬ (k < us.length ∧ (up us k).dr = u.dr ∧ (up us k).dn = u.dn)) ∧ ns = (us.take k ++ [u]) ++ us.drop k))
theorem PutR.len {us : List Upd} {u : Upd} {ns : List Upd} (h : PutR us u ns) : ns.length ≤ us.length + 1 := by
  obtain ⟨k, hk, _, _, ⟨_, _, _, e⟩ | ⟨_, e⟩⟩ := h
  · rw [e, List.take_append_drop]; omega
  · rw [e]; simp; omega
theorem PutR.mem {us : List Upd} {u : Upd} {ns : List Upd} (h : PutR us u ns) : ∀ x ∈ ns, x ∈ us ∨ x = u := by
  obtain ⟨k, hk, _, _, ⟨_, _, _, e⟩ | ⟨_, e⟩⟩ := h
  · rw [e]; intro x hx; left; rwa [List.take_append_drop] at hx
  · rw [e]; intro x hx
    simp at hx
    rcases hx with hx | hx | hx
    · exact Or.inl (List.mem_of_mem_take hx)
    · exact Or.inr hx
    · exact Or.inl (List.mem_of_mem_drop hx)
end M1
namespace Go

theorem run_append_zero {P : Program} {w : World} (base : Nat) (t ty e : TypeId) (i : TypeInfo) (size : Nat) (ht : P.underlying t = some (.slice e)) (hi : P.info? e = some i)
    (v : Value) (n : Nat) (xs : List Value) (hown : w.ownsRow base e size v n xs) (x : Option Addr) (c : Nat) :
    (Builtin.append_ #[t, t] ty #[v, .slice x 0 c]).run P w = .ok v w := by
  rcases hown.2 with ⟨rfl, rfl⟩ | ⟨g, cap, cur, rfl, _, _, hnc, _⟩
  · cases x <;> simp [Builtin.append_, run_underlying ht, sizeOf, typeInfo, hi, Builtin.lenOf, Builtin.firstCells, loadCells, loadCellsFrom]
  · cases x <;> simp [Builtin.append_, run_underlying ht, sizeOf, typeInfo, hi, Builtin.lenOf, Builtin.firstCells, hnc, storeCells, loadCells, loadCellsFrom]

theorem wpList_append_zero {P : Program} {w : World} {ops : Array Oper} {rest : List Oper} {o : Oper} {a : Act} {Q : Exit → Act → World → Prop} (hgd : o.guard = none) (s x : Operand) (t : TypeId)
    (ho : o.op = .call { callee := .builtin .append, args := #[s, x], argTypes := #[t, t] })
    (base : Nat) (e : TypeId) (i : TypeInfo) (size : Nat) (ht : P.underlying t = some (.slice e)) (hi : P.info? e = some i)
    (v : Value) (n : Nat) (xs : List Value) (hs : a.eval s = v) (hown : w.ownsRow base e size v n xs) (y : Option Addr) (c : Nat) (hx : a.eval x = .slice y 0 c)
    (h : wpList P ops Q rest (a.put o.dst v) w) : wpList P ops Q (o :: rest) a w := by
  refine wpList_plain hgd fun K hK => ?_
  have hrun := run_append_zero (P := P) (w := w) base t o.type e i size ht hi v n xs hown y c
  unfold Oper.wp
  simp [execOp, ho, resolve, invoke, builtin, hs, hx, hrun, Result.andThen]
  exact hK _ _ h
end Go
namespace Go.Proofs.YtjgcjopijblpkaaDoor
open Go.ChangeShapes Go.WideShapes Go.ChangeAt Go.RowKit
set_option linter.unusedSimpArgs false
set_option linter.unusedVariables false

theorem ucL_take_cells {w : World} {b off n : Nat} {us : List M1.Upd} (h : ∀ i, i < n → UCells w b (off + i * 13) (M1.up us i)) (hl : us.length = n) (s m : Nat) (hm : s + m ≤ n) :
    ∀ j v, (ucL ((us.drop s).take m))[j]? = some v → w.cell? ((⟨b, off + s * 13, none⟩ : Addr).add j) = some v := by
  intro j v hv
  have hlen : ((us.drop s).take m).length = m := by simp; omega
  have hj : j < m * 13 := by
    have := (List.getElem?_eq_some_iff.1 hv).1
    rw [ucL_len, hlen] at this; exact this
  have hg := ucL_get ((us.drop s).take m) j (by rw [hlen]; exact hj)
  have hv2 : (ucL ((us.drop s).take m)).getD j undef = v := by simp [List.getD, hv]
  rw [hg] at hv2
  unfold ucell at hv2
  have hup : M1.up ((us.drop s).take m) (j / 13) = M1.up us (s + j / 13) := by
    unfold M1.up
    simp [List.getD, List.getElem?_take, List.getElem?_drop, show j / 13 < m by omega]
  rw [hup] at hv2
  have hc := h (s + j / 13) (by omega)
  rw [Go.WideShapes.add_plain]
  have ho : off + s * 13 + j = off + (s + j / 13) * 13 + j % 13 := by omega
  rw [ho]
  obtain ⟨c0, c1, c2, c3, c4, c5, c6, c7, c8, c9, c10, c11, c12⟩ := hc
  have hr : j % 13 < 13 := by omega
  generalize j % 13 = q at hv2 hr ⊢
  match q, hr with
  | 0, _ => rw [← hv2]; exact c0
  | 1, _ => rw [← hv2]; exact c1
  | 2, _ => rw [← hv2]; exact c2
  | 3, _ => rw [← hv2]; exact c3
  | 4, _ => rw [← hv2]; exact c4
  | 5, _ => rw [← hv2]; exact c5
  | 6, _ => rw [← hv2]; exact c6
  | 7, _ => rw [← hv2]; exact c7
  | 8, _ => rw [← hv2]; exact c8
  | 9, _ => rw [← hv2]; exact c9
  | 10, _ => rw [← hv2]; exact c10
  | 11, _ => rw [← hv2]; exact c11
  | 12, _ => rw [← hv2]; exact c12

theorem ucL_app (a b : List M1.Upd) : ucL (a ++ b) = ucL a ++ ucL b := List.flatMap_append

theorem ucL_one (us : List M1.Upd) : ∀ v ∈ ucL us, v.oneCell' = true := by
  intro v hv
  unfold ucL at hv
  rw [List.mem_flatMap] at hv
  obtain ⟨u, _, hu⟩ := hv
  exact one13 u v hu

theorem nest_dot (a b x y : Int) (w : World) : (if a = x then (if b = y then Result.ok (Next.value (Value.bool true)) w else Result.ok (Next.value (Value.bool false)) w) else Result.ok (Next.value (Value.bool false)) w) = Result.ok (Next.value (Value.bool (decide (a = x ∧ b = y)))) w := by
  by_cases h1 : a = x
  · by_cases h2 : b = y
    · simp [h1, h2]
    · simp [h1, h2]
  · simp [h1]

end Go.Proofs.YtjgcjopijblpkaaDoor
