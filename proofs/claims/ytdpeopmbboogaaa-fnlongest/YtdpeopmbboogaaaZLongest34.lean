/-
  Texts of one proof, joined: Math9, Ti2.
-/
import Derived.Test.YtdpeopmbboogaaaZLongest04
import Derived.Lib.SlicesCompact
import Derived.Test.YtdpeopmbboogaaaZLongest33
import Derived.Test.YtdpeopmbboogaaaZLongest18
namespace M1
/-- The traces of the spans among the first k updates. -/
def trTo (us : List Upd) : Nat → List Int
  | 0 => []
  | k + 1 => if (up us k).k = 1 then trTo us k ++ [(up us k).tr] else trTo us k
theorem trTo_len (us : List Upd) : ∀ k, (trTo us k).length ≤ k
  | 0 => Nat.le_refl _
  | k + 1 => by
    have := trTo_len us k
    unfold trTo
    split
    · simp; omega
    · omega

theorem lt_unique : ∀ {a b : List Int}, a.Pairwise (· < ·) → b.Pairwise (· < ·) → (∀ x, x ∈ a ↔ x ∈ b) → a = b
  | [], [], _, _, _ => rfl
  | [], y :: b, _, _, h => absurd ((h y).2 List.mem_cons_self) (by simp)
  | x :: a, [], _, _, h => absurd ((h x).1 List.mem_cons_self) (by simp)
  | x :: a, y :: b, ha, hb, h => by
    rw [List.pairwise_cons] at ha hb
    have hx : x = y := by
      rcases List.mem_cons.1 ((h x).1 List.mem_cons_self) with e | e
      · exact e
      · rcases List.mem_cons.1 ((h y).2 List.mem_cons_self) with e' | e'
        · exact e'.symm
        · have h1 := hb.1 x e
          have h2 := ha.1 y e'
          omega
    subst hx
    rw [lt_unique ha.2 hb.2 (fun z => ?_)]
    constructor
    · intro hz
      rcases List.mem_cons.1 ((h z).1 (List.mem_cons_of_mem _ hz)) with e | e
      · have := ha.1 z hz; omega
      · exact e
    · intro hz
      rcases List.mem_cons.1 ((h z).2 (List.mem_cons_of_mem _ hz)) with e | e
      · have := hb.1 z hz; omega
      · exact e

/-- r is l with n, where it belongs. -/
def PutI (l : List Int) (n : Int) (r : List Int) : Prop :=
  (n ∈ l ∧ r = l) ∨ (n ∉ l ∧ ∃ k, k ≤ l.length ∧ (∀ j, j < k → l.getD j 0 < n) ∧ (k = l.length ∨ ¬ l.getD k 0 < n) ∧ r = (l.take k ++ [n]) ++ l.drop k)

theorem PutI.mem {l : List Int} {n : Int} {r : List Int} (h : PutI l n r) (x : Int) : x ∈ r ↔ x ∈ l ∨ x = n := by
  rcases h with ⟨h1, rfl⟩ | ⟨_, k, _, _, _, rfl⟩
  · exact ⟨Or.inl, fun h => h.elim id (fun e => e ▸ h1)⟩
  · have e : x ∈ l ↔ x ∈ l.take k ∨ x ∈ l.drop k := by rw [← List.mem_append, List.take_append_drop]
    rw [e]
    simp only [List.mem_append, List.mem_singleton]
    constructor
    · rintro ((h | h) | h)
      · exact Or.inl (Or.inl h)
      · exact Or.inr h
      · exact Or.inl (Or.inr h)
    · rintro ((h | h) | h)
      · exact Or.inl (Or.inl h)
      · exact Or.inr h
      · exact Or.inl (Or.inr h)

theorem PutI.rises {l : List Int} {n : Int} {r : List Int} (h : PutI l n r) (hl : l.Pairwise (· < ·)) : r.Pairwise (· < ·) := by
  rcases h with ⟨h1, rfl⟩ | ⟨hn, k, hk, hlo, hhi, rfl⟩
  · exact hl
  · have hsplit : l = l.take k ++ l.drop k := (List.take_append_drop k l).symm
    have hp := hl
    rw [hsplit, List.pairwise_append] at hp
    have htake : ∀ x ∈ l.take k, x < n := by
      intro x hx
      obtain ⟨j, hj, rfl⟩ := List.getElem_of_mem hx
      have hj' : j < k := by simp at hj; omega
      have := hlo j hj'
      simpa [List.getD, List.getElem?_eq_getElem (show j < l.length by omega)] using this
    have hdrop : ∀ x ∈ l.drop k, n < x := by
      intro x hx
      obtain ⟨j, hj, rfl⟩ := List.getElem_of_mem hx
      rw [List.getElem_drop]
      have hj' : k + j < l.length := by simp at hj; omega
      have hk1 : k < l.length := by omega
      have hlk : ¬ l[k] < n := by
        rcases hhi with e | e
        · omega
        · simpa [List.getD, List.getElem?_eq_getElem hk1] using e
      have hne : l[k] ≠ n := fun e => hn (e ▸ List.getElem_mem hk1)
      have hle : l[k] ≤ l[k + j] := by
        by_cases e : j = 0
        · subst e; exact Int.le_refl _
        · exact Int.le_of_lt (List.pairwise_iff_getElem.1 hl k (k + j) hk1 hj' (by omega))
      omega
    rw [List.pairwise_append]
    refine ⟨?_, hp.2.1, ?_⟩
    · rw [List.pairwise_append]
      exact ⟨hp.1, List.pairwise_singleton _ _, fun a ha b hb => by rw [List.mem_singleton.1 hb]; exact htake a ha⟩
    · intro a ha b hb
      rcases List.mem_append.1 ha with ha | ha
      · exact hp.2.2 a ha b hb
      · rw [List.mem_singleton.1 ha]; exact hdrop b hb

theorem compactTo (d : Array Int) (h : ∀ i j, i ≤ j → j < d.size → d[i]! ≤ d[j]!) : ∀ m, m ≤ d.size →
    (Go.Lib.compactUpTo d m).Pairwise (· < ·) ∧ (∀ x ∈ Go.Lib.compactUpTo d m, ∃ j, j < m ∧ d[j]! = x) ∧ ∀ j, j < m → d[j]! ∈ Go.Lib.compactUpTo d m
  | 0, _ => by
    refine ⟨?_, ?_, ?_⟩
    · simp [Go.Lib.compactUpTo]
    · intro x hx; simp [Go.Lib.compactUpTo] at hx
    · intro j hj; omega
  | m + 1, hm => by
    obtain ⟨h1, h2, h3⟩ := compactTo d h m (by omega)
    rw [Go.Lib.compactUpTo_succ]
    by_cases hk : Go.Lib.keeps d m = true
    · rw [if_pos hk]
      refine ⟨?_, ?_, ?_⟩
      · rw [List.pairwise_append]
        refine ⟨h1, List.pairwise_singleton _ _, fun a ha b hb => ?_⟩
        rw [List.mem_singleton.1 hb]
        obtain ⟨j, hj, rfl⟩ := h2 a ha
        have hm0 : m ≠ 0 := by omega
        have e1 := h j (m - 1) (by omega) (by omega)
        have e2 := h (m - 1) m (by omega) (by omega)
        have e3 : d[m]! ≠ d[m - 1]! := fun e => by
          rw [Go.Lib.keeps_neg (by omega) e] at hk; cases hk
        omega
      · intro x hx
        rcases List.mem_append.1 hx with hx | hx
        · obtain ⟨j, hj, e⟩ := h2 x hx; exact ⟨j, by omega, e⟩
        · exact ⟨m, by omega, (List.mem_singleton.1 hx).symm⟩
      · intro j hj
        by_cases e : j = m
        · rw [e]; exact List.mem_append_right _ (List.mem_singleton.2 rfl)
        · exact List.mem_append_left _ (h3 j (by omega))
    · rw [if_neg hk, List.append_nil]
      refine ⟨h1, fun x hx => ?_, fun j hj => ?_⟩
      · obtain ⟨j, hj, e⟩ := h2 x hx; exact ⟨j, by omega, e⟩
      · by_cases e : j = m
        · have hm0 : 0 < m := by
            rcases Nat.eq_zero_or_pos m with z | z
            · exact absurd (Go.Lib.keeps_lt_one d m (by omega)) hk
            · exact z
          have e3 : d[m]! = d[m - 1]! := by
            refine Classical.not_not.1 fun ne => hk (Go.Lib.keeps_pos ne)
          rw [e, e3]; exact h3 (m - 1) (by omega)
        · exact h3 j (by omega)

theorem compact_sorted {l : List Int} (h : l.Pairwise (· ≤ ·)) : (Go.Lib.compact l).Pairwise (· < ·) ∧ ∀ x, x ∈ Go.Lib.compact l ↔ x ∈ l := by
  have hd : ∀ i j, i ≤ j → j < l.toArray.size → l.toArray[i]! ≤ l.toArray[j]! := by
    intro i j hij hj
    simp at hj
    by_cases e : i = j
    · rw [e]; exact Int.le_refl _
    · have := List.pairwise_iff_getElem.1 h i j (by omega) hj (by omega)
      simpa [show i < l.length by omega, hj] using this
  obtain ⟨h1, h2, h3⟩ := compactTo l.toArray hd l.length (by simp)
  refine ⟨h1, fun x => ⟨fun hx => ?_, fun hx => ?_⟩⟩
  · obtain ⟨j, hj, e⟩ := h2 x hx
    have : l[j] = x := by simpa [hj] using e
    exact this ▸ List.getElem_mem hj
  · obtain ⟨j, hj, e⟩ := List.getElem_of_mem hx
    have := h3 j hj
    have e2 : l.toArray[j]! = x := by simpa [hj] using e
    rw [e2] at this; exact this

/-- Put one by one, or sorted and compacted. -/
theorem traces_same {us : List Upd} {k : Nat} {r : List Int} (hr : r.Pairwise (· < ·)) (hm : ∀ x, x ∈ r ↔ x ∈ trTo us k) : Go.Lib.compact ((trTo us k).mergeSort fun x y => decide (x ≤ y)) = r := by
  have hs : ((trTo us k).mergeSort fun x y => decide (x ≤ y)).Pairwise (· ≤ ·) := by
    have := List.pairwise_mergeSort (le := fun x y : Int => decide (x ≤ y)) (fun a b c h1 h2 => by simp at *; omega) (fun a b => by simp; omega) (trTo us k)
    exact this.imp (fun h => by simpa using h)
  obtain ⟨h1, h2⟩ := compact_sorted hs
  refine lt_unique h1 hr fun x => ?_
  rw [h2, List.mem_mergeSort, hm]
end M1

namespace Go.Proofs.Ytdpeopmbboogaaa
open Go.ChangeShapes Go.WideShapes Go.ChangeAt Go.RowKit
set_option linter.unusedSimpArgs false
set_option linter.unusedVariables false

theorem infoI0 : (Try.prog.info? 2).map (fun i => (i.zero, i.size, i.bytes)) = some (some (.int .i64 0), 1, 8) := by kernel_rfl
theorem infoI : ∃ i, Try.prog.info? 2 = some i ∧ i.zero = some (.int .i64 0) ∧ i.size = 1 ∧ i.bytes = 8 := by
  have h := infoI0
  cases e : Try.prog.info? 2 with
  | none => rw [e] at h; cases h
  | some i => rw [e] at h; simp at h; exact ⟨i, rfl, h.1, h.2.1, h.2.2⟩
def iL (zs : List Int) : List Value := zs.map (Value.int .i64)
theorem iL_len (zs : List Int) : (iL zs).length = zs.length * 1 := by simp [iL]
theorem iL_get (zs : List Int) (o : Nat) (h : o < zs.length * 1) : (iL zs).getD o undef = icell zs o := by
  have h' : o < zs.length := by omega
  simp [iL, icell, List.getD, h']
theorem iL_one (zs : List Int) : ∀ v ∈ iL zs, v.oneCell' = true := by
  intro v hv
  simp [iL] at hv
  obtain ⟨x, _, rfl⟩ := hv
  rfl
theorem MI.of_owns {w : World} {base n : Nat} {e : TypeId} {av : Option Addr} {cap : Nat} {zs : List Int} (hl : zs.length = n) (h : w.ownsRow base e 1 (.slice av n cap) n (iL zs)) : MI w av n cap base w.heap.size (icell zs) := by
  have h0 := h
  obtain ⟨h1, h2⟩ := h
  rcases h2 with ⟨e1, h3⟩ | ⟨g, cap', cur, e1, hg, hh, hn, hm, hs, ht⟩
  · injection e1 with a1 a2 a3; subst a1; subst a3
    exact ⟨by omega, by unfold maxLen; omega, Or.inl ⟨h3, rfl⟩⟩
  · injection e1 with a1 a2 a3; subst a1; subst a3
    have hr := (RowAt.of_owns h0).same fun o ho => iL_get zs o (by rw [hl]; exact ho)
    rw [Nat.mul_one] at hr
    exact ⟨hn, hm, Or.inr ⟨g, rfl, hg, hr.lt, hr⟩⟩
theorem ownsI_empty (w : World) (e : TypeId) : (w.alloc (.cells #[] e)).ownsRow w.heap.size e 1 (.slice (some ⟨w.heap.size, 0, none⟩) 0 0) 0 (iL []) := by
  refine ⟨rfl, Or.inr ⟨w.heap.size, 0, #[], rfl, Nat.le_refl _, ?_, Nat.le_refl _, by unfold maxLen; omega, rfl, rfl⟩⟩
  show (w.heap.push (.cells #[] e))[w.heap.size]? = _
  simp

/-- The m numbers ys lie where the slice says. -/
def SrcI (w : World) (yv : Option Addr) (m : Nat) (ys : List Int) : Prop := ys.length = m ∧ (m = 0 ∨ ∃ b off, yv = some ⟨b, off, none⟩ ∧ ∀ j, j < m → w.cell? ⟨b, off + j, none⟩ = some (.int .i64 (ys.getD j 0)))

theorem src_one (w : World) (x : Int) (t : TypeId) : SrcI (w.alloc (.cells #[.int .i64 x] t)) (some ⟨w.heap.size, 0, none⟩) 1 [x] :=
  ⟨rfl, Or.inr ⟨w.heap.size, 0, rfl, fun j hj => by
    have e : j = 0 := by omega
    subst e; simp⟩⟩

theorem wpList_appI {w : World} {ops : Array Oper} {rest : List Oper} {o : Oper} {a : Act} {Q : Exit → Act → World → Prop} (hw : Region.wanted o (yielded ops a.tmps) = true) (s x : Operand)
    (ho : o.op = .call { callee := .builtin .append, args := #[s, x], argTypes := #[37, 37] })
    (base : Nat) (xv : Option Addr) (xc n : Nat) (ns : List Int) (hn : ns.length = n) (hs : a.eval s = .slice xv n xc) (hown : w.ownsRow base 2 1 (.slice xv n xc) n (iL ns))
    (yv : Option Addr) (m yc : Nat) (ys : List Int) (hx : a.eval x = .slice yv m yc) (hy : SrcI w yv m ys) (hlen : n + m ≤ 100000000) (hbase : base ≤ w.heap.size)
    (h : ∀ av cap w', w'.ownsRow base 2 1 (.slice av (n + m) cap) (n + m) (iL (ns ++ ys)) → Below base w w' → wpList Try.prog ops Q rest (a.put o.dst (.slice av (n + m) cap)) w') : wpList Try.prog ops Q (o :: rest) a w := by
  obtain ⟨ti, hi1, hi2, hi3, hi4⟩ := infoI
  refine wpList_step fun K hK => ?_
  rw [if_pos hw]
  by_cases hm0 : m = 0
  · subst hm0
    have hys : ys = [] := List.eq_nil_of_length_eq_zero hy.1
    subst hys
    have hrun := run_append_zero (P := Try.prog) (w := w) base 37 o.type 2 ti 1 Try.underlying37 hi1 (.slice xv n xc) n (iL ns) hown yv yc
    unfold Oper.wp
    simp [execOp, ho, resolve, invoke, builtin, hs, hx, hrun, Result.andThen]
    refine hK _ _ (h xv xc w ?_ (Below.refl _ _))
    simpa using hown
  · rcases hy.2 with h0 | ⟨b, off, rfl, hc⟩
    · exact absurd h0 hm0
    have hnews : ∀ j u, (iL ys)[j]? = some u → w.cell? ((⟨b, off, none⟩ : Addr).add j) = some u := by
      intro j u hu
      have hj : j < m := by
        rw [← hy.1]
        have := (List.getElem?_eq_some_iff.1 hu).1
        simpa [iL] using this
      have e := hc j hj
      have e2 : (⟨b, off, none⟩ : Addr).add j = ⟨b, off + j, none⟩ := by unfold Addr.add; split <;> simp_all
      rw [e2, e]
      have hj2 : j < ys.length := by rw [hy.1]; exact hj
      simp [iL, hj2] at hu
      rw [← hu]
      simp [List.getD, hj2]
    refine wp_append_lies w s x 37 ho base 2 ti _ 1 8 Try.underlying37 hi1 hi2 hi3 hi4 rfl (by omega) (.slice xv n xc) n (iL ns) hs hown ⟨b, off, none⟩ m yc (iL ys) hx (by rw [iL_len, hy.1]) hnews (iL_one ys) (by omega) (by unfold maxLen; omega) (by omega) hbase _ rfl ?_
    intro g cap w' hown' hgrow hat hlt
    refine hK _ _ (h _ _ _ ?_ ?_)
    · have e : iL (ns ++ ys) = iL ns ++ iL ys := by simp [iL]
      rw [e]; exact hown'
    · exact (Below.refl base w).grown hgrow hbase (owns_base hown)

theorem getD_mem {zs : List Int} {i : Nat} (h : i < zs.length) : zs.getD i 0 ∈ zs := by
  have : zs.getD i 0 = zs[i] := by simp [List.getD, h]
  rw [this]; exact List.getElem_mem h

/-- Whether the number is among them. -/
def HasW (e : Ending) (zs : List Int) (x : Int) : Prop := ∃ b : Bool, e = .returned (.bool b) ∧ (b = true ↔ x ∈ zs)

/-- A list with one number more, where it belongs. -/
def PutW (w' : World) (e : Ending) (lo : Nat) (zs : List Int) (x : Int) : Prop := ∃ (av : Option Addr) (cap : Nat) (r : List Int), e = .returned (.slice av r.length cap) ∧ M1.PutI zs x r ∧ MI w' av r.length cap lo w'.heap.size (icell r)

end Go.Proofs.Ytdpeopmbboogaaa
