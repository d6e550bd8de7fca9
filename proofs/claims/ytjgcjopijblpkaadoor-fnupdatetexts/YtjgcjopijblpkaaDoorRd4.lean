/-
  The contracts of the program's readDecimals and of strings.Split at a blank.
-/
import Derived.Test.YtjgcjopijblpkaaDoorRd2
import Derived.Test.YtjgcjopijblpkaaDoorTx3
import Derived.Test.YtjgcjopijblpkaaDoorTi2
namespace Go.Proofs.YtjgcjopijblpkaaDoor
open Go.ChangeShapes Go.WideShapes Go.ChangeAt Go.RowKit Go.Shelf
set_option linter.unusedSimpArgs false
set_option linter.unusedVariables false

/-- Words in part of a row. -/
structure WdsAt (w : World) (g off n c : Nat) (xs : List ByteArray) : Prop where
  len : xs.length = n
  cap : n ≤ c
  most : c ≤ maxLen
  lt : g < w.heap.size
  cell : ∀ i, i < n → w.cell? ⟨g, off + i, none⟩ = some (.string (xs.getD i ByteArray.empty))
theorem WdsAt.below {w w' : World} {g off n c : Nat} {xs : List ByteArray} (h : WdsAt w g off n c xs) (hb : Below w.heap.size w w') : WdsAt w' g off n c xs :=
  ⟨h.len, h.cap, h.most, Nat.lt_of_lt_of_le h.lt hb.size, fun i hi => (hb.cell (p := ⟨g, off + i, none⟩) h.lt).trans (h.cell i hi)⟩
/-- What readDecimals answers. -/
def RdsW (w w' : World) (e : Ending) (ws : List (List UInt8)) : Prop := match M1.rdNs ws with
  | none => e = .returned (.tuple #[.slice none 0 0, .bool false])
  | some ns => ∃ (av : Option Addr) (cap : Nat), e = .returned (.tuple #[.slice av ns.length cap, .bool true]) ∧ MI w' av ns.length cap w.heap.size w'.heap.size (icell ns)

theorem rdNs_take {ws : List (List UInt8)} : ∀ {k : Nat}, k < ws.length → ∀ {ns : List Int}, M1.rdNs (ws.take k) = some ns → M1.rdNs (ws.take (k + 1)) = match M1.rdN (ws.getD k []) with | none => none | some n => some (ns ++ [n]) := by
  induction ws with
  | nil => intro k hk; simp at hk
  | cons w t ih =>
    intro k hk ns h
    cases k with
    | zero =>
      have e : [] = ns := by simpa [M1.rdNs] using h
      subst e
      show M1.rdNs [w] = match M1.rdN w with | none => none | some n => some ([] ++ [n])
      unfold M1.rdNs
      cases M1.rdN w with
      | none => rfl
      | some n => rfl
    | succ k =>
      rw [List.take_succ_cons] at h ⊢
      unfold M1.rdNs at h ⊢
      cases e1 : M1.rdN w with
      | none => rw [e1] at h; cases h
      | some n =>
        rw [e1] at h
        cases e2 : M1.rdNs (t.take k) with
        | none => rw [e2] at h; cases h
        | some ms =>
          rw [e2] at h
          have e3 : n :: ms = ns := by simpa using h
          subst e3
          have := ih (k := k) (by simpa using hk) e2
          simp only
          rw [this]
          simp only [List.getD_cons_succ]
          cases M1.rdN (t.getD k []) <;> simp
theorem rdNs_fail {ws : List (List UInt8)} : ∀ {k : Nat}, k ≤ ws.length → M1.rdNs (ws.take k) = none → M1.rdNs ws = none := by
  induction ws with
  | nil => intro k hk h; simp [M1.rdNs] at h
  | cons w t ih =>
    intro k hk h
    cases k with
    | zero => simp [M1.rdNs] at h
    | succ k =>
      rw [List.take_succ_cons] at h
      unfold M1.rdNs at h ⊢
      cases e1 : M1.rdN w with
      | none => rfl
      | some n =>
        rw [e1] at h
        cases e2 : M1.rdNs (t.take k) with
        | none => simp only; rw [ih (k := k) (by simpa using hk) e2]
        | some ms => rw [e2] at h; cases h

set_option maxHeartbeats 4000000 in
set_option maxRecDepth 100000 in
theorem readDecimals_any (g off n c : Nat) (xs : List ByteArray) (w : World) (h : WdsAt w g off n c xs) (hn : n ≤ 1000) (hl : Hid (∀ x ∈ xs, x.size ≤ maxLen)) :
    Calls Tryd.prog 30 #[.slice (some ⟨g, off, none⟩) n c] w fun e w' => RdsW w w' e (xs.map fun x => x.data.toList) ∧ Below w.heap.size w w' := by
  have hcap := h.cap
  have hmost := h.most
  have hln : Hid (xs.length = n) := h.len
  unfold maxLen at hmost
  go_enter Tryd.func30, Tryd.ntmps30
  go_wp2_with fail
  go_loopw [4, 11] (fun ov iv wr => ∃ (k : Nat) (av : Option Addr) (m c2 : Nat) (ns : List Int), k ≤ n ∧ iv = .int .i64 k ∧ ov = .slice av m c2 ∧ Hid (ns.length = m) ∧ m = k ∧ Hid (M1.rdNs ((xs.map fun x => x.data.toList).take k) = some ns) ∧ wr.ownsRow w.heap.size 2 1 (.slice av m c2) m (iL ns) ∧ Below w.heap.size w wr) (fun _ iv _ => n - (intOf iv).toNat)
  case atStart => exact ⟨0, none, 0, 0, [], Nat.zero_le _, rfl, rfl, rfl, rfl, rfl, ⟨rfl, Or.inl ⟨rfl, rfl⟩⟩, Below.refl _ _⟩
  case round =>
    obtain ⟨k, av, m, c2, ns, hk, rfl, rfl, hm, hmk, hns, own, hB⟩ := hrel
    subst hmk
    have hsB := hB.size
    by_cases hlt : m < n
    · have h2 : WdsAt wr g off n c xs := ⟨h.len, h.cap, h.most, Nat.lt_of_lt_of_le h.lt hB.size, fun i hi => (hB.cell (p := ⟨g, off + i, none⟩) h.lt).trans (h.cell i hi)⟩
      have d0 := h2.cell m hlt
      have hgl := h2.lt
      have hmx : m < xs.length := by rw [hln.out]; exact hlt
      have HX : Hid ((xs.getD m ByteArray.empty).size ≤ maxLen) := hl.out _ (by rw [show xs.getD m ByteArray.empty = xs[m] by simp [List.getD, hmx]]; exact List.getElem_mem _)
      have HT : Hid (M1.rdNs ((xs.map fun x => x.data.toList).take (m + 1)) = match M1.rdN (xs.getD m ByteArray.empty).data.toList with | none => none | some q => some (ns ++ [q])) := (by
        have := rdNs_take (ws := xs.map fun x => x.data.toList) (k := m) (by simpa using hmx) hns.out
        rw [this]
        have e : (xs.map fun x => x.data.toList).getD m [] = (xs.getD m ByteArray.empty).data.toList := by simp [List.getD, hmx]
        rw [e] : _ = _)
      have i0 : (0 : Int) ≤ (m : Int) := by omega
      have i1 : (m : Int) < (n : Int) := by omega
      obtain ⟨x, hx⟩ : ∃ x, Hid (xs.getD m ByteArray.empty = x) := ⟨_, rfl⟩
      rw [hx.out] at d0 HX HT
      obtain ⟨b, hb⟩ : ∃ b, Hid (M1.numB x.data.toList = b) := ⟨_, rfl⟩
      clear hmx
      go_wp2_with fail
      refine (readDecimal_any x _ HX.out).mono ?_
      rw [hb.out]
      rintro e w1 ⟨rfl, rfl⟩
      cases b with
      | false =>
        have HN : Hid (M1.rdNs (xs.map fun x => x.data.toList) = none) := (rdNs_fail (k := m + 1) (by rw [List.length_map, hln.out]; omega) (by rw [HT.out]; unfold M1.rdN; rw [hb.out]; rfl) : _ = _)
        go_wp2_with fail
        refine bodyPost_ret (v := .tuple #[.slice none 0 0, .bool false]) (by simp [results, Tryd.results30, go_sem]) rfl ?_
        exact ⟨by unfold RdsW; rw [HN.out], hB⟩
      | true =>
        have HQ : Hid (M1.rdNs ((xs.map fun x => x.data.toList).take (m + 1)) = some (ns ++ [M1.numV x])) := (by rw [HT.out]; unfold M1.rdN M1.numV; rw [hb.out]; rfl : _ = _)
        have hA : Below w1.heap.size w1 (w1.alloc (.cells #[.int .i64 (M1.numV x)] 2)) := (Below.refl _ _).alloc (Nat.le_refl _) _
        have own2 := owns_below own hA
        have hm2 : Hid ((ns ++ [M1.numV x]).length = m + 1) := (by rw [List.length_append, hm.out]; rfl : _ = _)
        go_wp2_with (at_builtin; refine wpList_appI (by rfl) _ _ rfl w.heap.size _ _ m ns hm.out rfl own2 _ 1 1 [M1.numV x] rfl (src_one w1 _ _) (by omega) (by simp; omega) ?_; intro a4 c4 w4 ow4 hb4)
        have hB4 := (hB.trans (hA.mono hsB)).trans hb4
        exact ⟨⟨m + 1, a4, m + 1, c4, ns ++ [M1.numV x], by omega, by go_num, rfl, hm2, rfl, HQ, ow4, hB4⟩, by simp [intOf]; omega⟩
    · have hmn : m = n := by omega
      have HQ : Hid (M1.rdNs (xs.map fun x => x.data.toList) = some ns) := (by
        have := hns.out
        rw [List.take_of_length_le (by rw [List.length_map, hln.out]; omega)] at this
        exact this : _ = _)
      have mi := MI.of_owns hm.out own
      go_wp2_with fail
      refine bodyPost_ret (v := .tuple #[.slice av m c2, .bool true]) (by simp [results, Tryd.results30, go_sem]) rfl ?_
      refine ⟨?_, hB⟩
      unfold RdsW
      rw [HQ.out]
      exact ⟨av, c2, by rw [hm.out], by rw [hm.out]; exact mi⟩
end Go.Proofs.YtjgcjopijblpkaaDoor
