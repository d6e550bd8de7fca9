/-
  Contracts of what the program's Found is made of: the closure that asks, and slices.ContainsFunc at it.
-/
import Derived.Test.YtpflbhjgnmkajaaGreatZFound40
import Derived.Test.YtpflbhjgnmkajaaGreatZFound47
namespace M1
theorem any_yes {l : List Upd} {p : Upd → Bool} {i : Nat} (hi : i < l.length) (h : p (up l i) = true) : l.any p = true := by
  rw [List.any_eq_true]
  refine ⟨up l i, ?_, h⟩
  have : up l i = l[i] := by simp [up, List.getD, hi]
  rw [this]; exact List.getElem_mem hi
theorem any_no {l : List Upd} {p : Upd → Bool} (h : ∀ i, i < l.length → p (up l i) = false) : l.any p = false := by
  rw [List.any_eq_false]
  intro x hx
  obtain ⟨j, hj, e⟩ := List.getElem_of_mem hx
  have := h j hj
  have e2 : up l j = l[j] := by simp [up, List.getD, hj]
  rw [e2, e] at this
  simp [this]
end M1
namespace Go.Proofs.YtpflbhjgnmkajaaGreat
open Go.ChangeShapes Go.WideShapes Go.ChangeAt Go.RowKit
set_option linter.unusedSimpArgs false
set_option linter.unusedVariables false

/-- The three boxes that the closure holds. -/
structure Held3 (w : World) (B : Nat) (sv : ByteArray) (fr tt : Int) : Prop where
  c0 : w.cell? ⟨B, 0, none⟩ = some (.string sv)
  c1 : w.cell? ⟨B + 1, 0, none⟩ = some (.int .i64 fr)
  c2 : w.cell? ⟨B + 1 + 1, 0, none⟩ = some (.int .i64 tt)
  lt : B + 3 ≤ w.heap.size
theorem Held3.below {w w' : World} {B : Nat} {sv : ByteArray} {fr tt : Int} (h : Held3 w B sv fr tt) (hb : Below w.heap.size w w') : Held3 w' B sv fr tt :=
  ⟨(hb.cell (p := ⟨B, 0, none⟩) (by have := h.lt; show B < _; omega)).trans h.c0, (hb.cell (p := ⟨B + 1, 0, none⟩) (by have := h.lt; show B + 1 < _; omega)).trans h.c1, (hb.cell (p := ⟨B + 1 + 1, 0, none⟩) (by have := h.lt; show B + 1 + 1 < _; omega)).trans h.c2, Nat.le_trans h.lt hb.size⟩

set_option maxHeartbeats 4000000 in
theorem asked_any (u : M1.Upd) (B : Nat) (sv : ByteArray) (fr tt : Int) (w : World) (h : Held3 w B sv fr tt) :
    Calls Tryz.prog 18 #[.agg #[.int .i64 u.id, .int .i64 u.pa, .string u.s, .int .i64 u.st, .int .i64 u.en], .pointer (some ⟨B, 0, none⟩), .pointer (some ⟨B + 1 + 1, 0, none⟩), .pointer (some ⟨B + 1, 0, none⟩)] w fun e w' => e = .returned (.bool (M1.askB sv fr tt u)) ∧ Below w.heap.size w w' := by
  obtain ⟨c0, c1, c2, hlt⟩ := h
  have n0 : ¬ B = w.heap.size := by omega
  have n1 : ¬ B + 1 = w.heap.size := by omega
  have n2 : ¬ B + 1 + 1 = w.heap.size := by omega
  have hA : Below w.heap.size w (w.alloc (.cells #[.int .i64 u.id, .int .i64 u.pa, .string u.s, .int .i64 u.st, .int .i64 u.en] 35)) := (Below.refl _ _).alloc (Nat.le_refl _) _
  obtain ⟨hcA, hfA⟩ := bcell hA
  have l0 : B < w.heap.size := by omega
  have l1 : B + 1 < w.heap.size := by omega
  have l2 : B + 1 + 1 < w.heap.size := by omega
  by_cases e1 : u.s.toList = sv.toList <;> by_cases e2 : u.st ≤ tt <;> by_cases e3 : fr ≤ u.en
  all_goals (go_enter Tryz.func18, Tryz.ntmps18)
  all_goals go_wp2
  all_goals (go_ret)
  all_goals (refine ⟨?_, hA⟩; unfold M1.askB; simp [e1, e2, e3])

set_option maxHeartbeats 4000000 in
set_option maxRecDepth 100000 in
theorem indexFunc_any (av : Option Addr) (m c lo hi B : Nat) (S : List M1.Upd) (sv : ByteArray) (fr tt : Int) (w : World) (hm : Hid (S.length = m)) (h1 : MG w av m c lo hi (scell S)) (hH : Held3 w B sv fr tt) :
    Calls Tryz.prog 43 #[.slice av m c, .func (.func 18) #[] #[.pointer (some ⟨B, 0, none⟩), .pointer (some ⟨B + 1 + 1, 0, none⟩), .pointer (some ⟨B + 1, 0, none⟩)]] w fun e w' => (∃ r : Int, e = .returned (.int .i64 r) ∧ decide (0 ≤ r) = S.any (M1.askB sv fr tt)) ∧ Below w.heap.size w w' := by
  have hm1 := h1.1
  have hm2 := h1.2.1
  unfold maxLen at hm2
  go_enter Tryz.func43, Tryz.ntmps43
  go_wp2_with fail
  go_loopw [8] (fun iv wr => ∃ i : Nat, i ≤ m ∧ iv = .int .i64 i ∧ Hid (∀ j, j < i → M1.askB sv fr tt (M1.up S j) = false) ∧ Below w.heap.size w wr) (fun iv _ => m - (intOf iv).toNat)
  case atStart => exact ⟨0, Nat.zero_le _, rfl, fun j hj => absurd hj (Nat.not_lt_zero _), Below.refl _ _⟩
  case round =>
    obtain ⟨i, hi, rfl, hall, hB⟩ := hrel
    by_cases hlt : i < m
    · have g1 := h1.below hB
      rcases g1.2.2 with ⟨h0, _⟩ | ⟨g, rfl, _, _, r1⟩
      · omega
      have hgl := r1.lt
      have i0 : (0 : Int) ≤ (i : Int) := by omega
      have i1 : (i : Int) < (m : Int) := by omega
      have z0 : scell S (i * 5) = .int .i64 (M1.up S i).id := scell_at S i 0 (by omega)
      have z1 : scell S (i * 5 + 1) = .int .i64 (M1.up S i).pa := scell_at S i 1 (by omega)
      have z2 : scell S (i * 5 + 2) = .string (M1.up S i).s := scell_at S i 2 (by omega)
      have z3 : scell S (i * 5 + 3) = .int .i64 (M1.up S i).st := scell_at S i 3 (by omega)
      have z4 : scell S (i * 5 + 4) = .int .i64 (M1.up S i).en := scell_at S i 4 (by omega)
      have d0 := r1.cell (o := i * 5) (by omega)
      have d1 := r1.cell (o := i * 5 + 1) (by omega)
      have d2 := r1.cell (o := i * 5 + 2) (by omega)
      have d3 := r1.cell (o := i * 5 + 3) (by omega)
      have d4 := r1.cell (o := i * 5 + 4) (by omega)
      rw [z0] at d0
      rw [z1] at d1
      rw [z2] at d2
      rw [z3] at d3
      rw [z4] at d4
      clear z0 z1 z2 z3 z4 g1
      go_wp2_with fail
      refine (asked_any (M1.up S i) B sv fr tt _ (hH.below hB)).mono ?_
      obtain ⟨q, hq⟩ : ∃ q, Hid (M1.askB sv fr tt (M1.up S i) = q) := ⟨_, rfl⟩
      rw [hq.out]
      rintro e w2 ⟨rfl, hb2⟩
      have hB2 := hB.trans (hb2.mono hB.size)
      cases q with
      | true =>
        have HA : Hid (S.any (M1.askB sv fr tt) = true) := (M1.any_yes (by rw [hm.out]; exact hlt) hq.out : _ = _)
        clear hall
        go_wp2_with fail
        go_ret
        exact ⟨⟨(i : Int), rfl, by rw [HA.out]; simp⟩, hB2⟩
      | false =>
        have HQ : Hid (∀ j, j < i + 1 → M1.askB sv fr tt (M1.up S j) = false) := fun j hj => by
          by_cases e : j = i
          · rw [e]; exact hq.out
          · exact hall.out j (by omega)
        clear hall
        go_wp2_with fail
        exact ⟨⟨i + 1, by omega, by go_num, HQ, hB2⟩, by simp [intOf]; omega⟩
    · have HA : Hid (S.any (M1.askB sv fr tt) = false) := (M1.any_no fun j hj => hall.out j (by rw [hm.out] at hj; omega) : _ = _)
      clear hall
      go_wp2_with fail
      go_ret
      exact ⟨⟨-1, rfl, by rw [HA.out]; simp⟩, hB⟩

set_option maxHeartbeats 4000000 in
theorem containsFunc_any (av : Option Addr) (m c lo hi B : Nat) (S : List M1.Upd) (sv : ByteArray) (fr tt : Int) (w : World) (hm : Hid (S.length = m)) (h1 : MG w av m c lo hi (scell S)) (hH : Held3 w B sv fr tt) :
    Calls Tryz.prog 19 #[.slice av m c, .func (.func 18) #[] #[.pointer (some ⟨B, 0, none⟩), .pointer (some ⟨B + 1 + 1, 0, none⟩), .pointer (some ⟨B + 1, 0, none⟩)]] w fun e w' => e = .returned (.bool (S.any (M1.askB sv fr tt))) ∧ Below w.heap.size w w' := by
  go_enter Tryz.func19, Tryz.ntmps19
  go_wp2_with fail
  refine (indexFunc_any _ _ _ _ _ _ _ _ _ _ _ hm h1 hH).mono ?_
  rintro e w1 ⟨⟨r, rfl, hr⟩, hb1⟩
  have HR : Hid (decide (0 ≤ r) = S.any (M1.askB sv fr tt)) := hr
  clear hr
  go_wp2_with fail
  go_ret
  exact ⟨by rw [← HR.out]; rfl, hb1⟩

/-- The numbers of a row of one's own, as a list that is appended tt. -/
theorem rowI_at {zs : List Int} {w : World} {g n : Nat} (h : RowAt w g n (icell zs)) {k : Nat} (hk : k < n) : w.cell? ⟨g, k, none⟩ = some (.int .i64 (zs.getD k 0)) := by
  have := h.cell (o := k) hk
  unfold icell at this
  exact this
end Go.Proofs.YtpflbhjgnmkajaaGreat
