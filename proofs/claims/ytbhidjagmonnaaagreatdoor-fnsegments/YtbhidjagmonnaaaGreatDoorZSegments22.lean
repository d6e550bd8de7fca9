/-
  Texts of one proof, joined: Ti2, Rd4.
-/
import Derived.Test.YtbhidjagmonnaaaGreatDoorZSegments18
import Derived.Test.YtbhidjagmonnaaaGreatDoorZSegments21
import Derived.Test.YtbhidjagmonnaaaGreatDoorZSegments15
import Derived.Test.YtbhidjagmonnaaaGreatDoorZSegments16
namespace Go.Proofs.YtbhidjagmonnaaaGreatDoor
open Go.ChangeShapes Go.WideShapes Go.ChangeAt Go.RowKit
set_option linter.unusedSimpArgs false
set_option linter.unusedVariables false

theorem infoI0 : (Tryz.prog.info? 2).map (fun i => (i.zero, i.size, i.bytes)) = some (some (.int .i64 0), 1, 8) := by kernel_rfl
theorem infoI : ∃ i, Tryz.prog.info? 2 = some i ∧ i.zero = some (.int .i64 0) ∧ i.size = 1 ∧ i.bytes = 8 := by
  have h := infoI0
  cases e : Tryz.prog.info? 2 with
  | none => rw [e] at h; cases h
  | some i => rw [e] at h; simp at h; exact ⟨i, rfl, h.1, h.2.1, h.2.2⟩
def iL (zs : List Int) : List Value := zs.map (Value.int .i64)
theorem iL_len (zs : List Int) : (iL zs).length = zs.length * 1 := by simp [iL]
theorem iL_get (zs : List Int) (o : Nat) (h : o < zs.length * 1) : (iL zs).getD o undef = icell zs o := by
  have h' : o < zs.length := by omega
  simp [iL, icell, List.getD, h']
theorem iL_one (zs : List Int) : ∀ v ∈ iL zs, v.oneCell' = true := by
  intro v hv
  simp [iL] at hv
  obtain ⟨x, _, rfl⟩ := hv
  rfl
theorem MI.of_owns {w : World} {base n : Nat} {e : TypeId} {av : Option Addr} {cap : Nat} {zs : List Int} (hl : zs.length = n) (h : w.ownsRow base e 1 (.slice av n cap) n (iL zs)) : MI w av n cap base w.heap.size (icell zs) := by
  have h0 := h
  obtain ⟨h1, h2⟩ := h
  rcases h2 with ⟨e1, h3⟩ | ⟨g, cap', cur, e1, hg, hh, hn, hm, hs, ht⟩
  · injection e1 with a1 a2 a3; subst a1; subst a3
    exact ⟨by omega, by unfold maxLen; omega, Or.inl ⟨h3, rfl⟩⟩
  · injection e1 with a1 a2 a3; subst a1; subst a3
    have hr := (RowAt.of_owns h0).same fun o ho => iL_get zs o (by rw [hl]; exact ho)
    rw [Nat.mul_one] at hr
    exact ⟨hn, hm, Or.inr ⟨g, rfl, hg, hr.lt, hr⟩⟩
theorem ownsI_empty (w : World) (e : TypeId) : (w.alloc (.cells #[] e)).ownsRow w.heap.size e 1 (.slice (some ⟨w.heap.size, 0, none⟩) 0 0) 0 (iL []) := by
  refine ⟨rfl, Or.inr ⟨w.heap.size, 0, #[], rfl, Nat.le_refl _, ?_, Nat.le_refl _, by unfold maxLen; omega, rfl, rfl⟩⟩
  show (w.heap.push (.cells #[] e))[w.heap.size]? = _
  simp

/-- The m numbers ys lie where the slice says. -/
def SrcI (w : World) (yv : Option Addr) (m : Nat) (ys : List Int) : Prop := ys.length = m ∧ (m = 0 ∨ ∃ b off, yv = some ⟨b, off, none⟩ ∧ ∀ j, j < m → w.cell? ⟨b, off + j, none⟩ = some (.int .i64 (ys.getD j 0)))

theorem src_one (w : World) (x : Int) (t : TypeId) : SrcI (w.alloc (.cells #[.int .i64 x] t)) (some ⟨w.heap.size, 0, none⟩) 1 [x] :=
  ⟨rfl, Or.inr ⟨w.heap.size, 0, rfl, fun j hj => by
    have e : j = 0 := by omega
    subst e; simp⟩⟩

theorem wpList_appI {w : World} {ops : Array Oper} {rest : List Oper} {o : Oper} {a : Act} {Q : Exit → Act → World → Prop} (hw : Region.wanted o (yielded ops a.tmps) = true) (s x : Operand)
    (ho : o.op = .call { callee := .builtin .append, args := #[s, x], argTypes := #[69, 69] })
    (base : Nat) (xv : Option Addr) (xc n : Nat) (ns : List Int) (hn : ns.length = n) (hs : a.eval s = .slice xv n xc) (hown : w.ownsRow base 2 1 (.slice xv n xc) n (iL ns))
    (yv : Option Addr) (m yc : Nat) (ys : List Int) (hx : a.eval x = .slice yv m yc) (hy : SrcI w yv m ys) (hlen : n + m ≤ 100000000) (hbase : base ≤ w.heap.size)
    (h : ∀ av cap w', w'.ownsRow base 2 1 (.slice av (n + m) cap) (n + m) (iL (ns ++ ys)) → Below base w w' → wpList Tryz.prog ops Q rest (a.put o.dst (.slice av (n + m) cap)) w') : wpList Tryz.prog ops Q (o :: rest) a w := by
  obtain ⟨ti, hi1, hi2, hi3, hi4⟩ := infoI
  refine wpList_step fun K hK => ?_
  rw [if_pos hw]
  by_cases hm0 : m = 0
  · subst hm0
    have hys : ys = [] := List.eq_nil_of_length_eq_zero hy.1
    subst hys
    have hrun := run_append_zero (P := Tryz.prog) (w := w) base 69 o.type 2 ti 1 Tryz.underlying69 hi1 (.slice xv n xc) n (iL ns) hown yv yc
    unfold Oper.wp
    simp [execOp, ho, resolve, invoke, builtin, hs, hx, hrun, Result.andThen]
    refine hK _ _ (h xv xc w ?_ (Below.refl _ _))
    simpa using hown
  · rcases hy.2 with h0 | ⟨b, off, rfl, hc⟩
    · exact absurd h0 hm0
    have hnews : ∀ j u, (iL ys)[j]? = some u → w.cell? ((⟨b, off, none⟩ : Addr).add j) = some u := by
      intro j u hu
      have hj : j < m := by
        rw [← hy.1]
        have := (List.getElem?_eq_some_iff.1 hu).1
        simpa [iL] using this
      have e := hc j hj
      have e2 : (⟨b, off, none⟩ : Addr).add j = ⟨b, off + j, none⟩ := by unfold Addr.add; split <;> simp_all
      rw [e2, e]
      have hj2 : j < ys.length := by rw [hy.1]; exact hj
      simp [iL, hj2] at hu
      rw [← hu]
      simp [List.getD, hj2]
    refine wp_append_lies w s x 69 ho base 2 ti _ 1 8 Tryz.underlying69 hi1 hi2 hi3 hi4 rfl (by omega) (.slice xv n xc) n (iL ns) hs hown ⟨b, off, none⟩ m yc (iL ys) hx (by rw [iL_len, hy.1]) hnews (iL_one ys) (by omega) (by unfold maxLen; omega) (by omega) hbase _ rfl ?_
    intro g cap w' hown' hgrow hat hlt
    refine hK _ _ (h _ _ _ ?_ ?_)
    · have e : iL (ns ++ ys) = iL ns ++ iL ys := by simp [iL]
      rw [e]; exact hown'
    · exact (Below.refl base w).grown hgrow hbase (owns_base hown)

theorem getD_mem {zs : List Int} {i : Nat} (h : i < zs.length) : zs.getD i 0 ∈ zs := by
  have : zs.getD i 0 = zs[i] := by simp [List.getD, h]
  rw [this]; exact List.getElem_mem h

/-- Whether the number is among them. -/
def HasW (e : Ending) (zs : List Int) (x : Int) : Prop := ∃ b : Bool, e = .returned (.bool b) ∧ (b = true ↔ x ∈ zs)

/-- A list with one number more, where it belongs. -/
def PutW (w' : World) (e : Ending) (lo : Nat) (zs : List Int) (x : Int) : Prop := ∃ (av : Option Addr) (cap : Nat) (r : List Int), e = .returned (.slice av r.length cap) ∧ M1.PutI zs x r ∧ MI w' av r.length cap lo w'.heap.size (icell r)

end Go.Proofs.YtbhidjagmonnaaaGreatDoor

namespace Go.Proofs.YtbhidjagmonnaaaGreatDoor
open Go.ChangeShapes Go.WideShapes Go.ChangeAt Go.RowKit Go.Shelf
set_option linter.unusedSimpArgs false
set_option linter.unusedVariables false

/-- Words in part of a row. -/
structure WdsAt (w : World) (g off n c : Nat) (xs : List ByteArray) : Prop where
  len : xs.length = n
  cap : n ≤ c
  most : c ≤ maxLen
  lt : g < w.heap.size
  cell : ∀ i, i < n → w.cell? ⟨g, off + i, none⟩ = some (.string (xs.getD i ByteArray.empty))
theorem WdsAt.below {w w' : World} {g off n c : Nat} {xs : List ByteArray} (h : WdsAt w g off n c xs) (hb : Below w.heap.size w w') : WdsAt w' g off n c xs :=
  ⟨h.len, h.cap, h.most, Nat.lt_of_lt_of_le h.lt hb.size, fun i hi => (hb.cell (p := ⟨g, off + i, none⟩) h.lt).trans (h.cell i hi)⟩
/-- What readDecimals answers. -/
def RdsW (w w' : World) (e : Ending) (ws : List (List UInt8)) : Prop := match M1.rdNs ws with
  | none => e = .returned (.tuple #[.slice none 0 0, .bool false])
  | some ns => ∃ (av : Option Addr) (cap : Nat), e = .returned (.tuple #[.slice av ns.length cap, .bool true]) ∧ MI w' av ns.length cap w.heap.size w'.heap.size (icell ns)

theorem rdNs_take {ws : List (List UInt8)} : ∀ {k : Nat}, k < ws.length → ∀ {ns : List Int}, M1.rdNs (ws.take k) = some ns → M1.rdNs (ws.take (k + 1)) = match M1.rdN (ws.getD k []) with | none => none | some n => some (ns ++ [n]) := by
  induction ws with
  | nil => intro k hk; simp at hk
  | cons w t ih =>
    intro k hk ns h
    cases k with
    | zero =>
      have e : [] = ns := by simpa [M1.rdNs] using h
      subst e
      show M1.rdNs [w] = match M1.rdN w with | none => none | some n => some ([] ++ [n])
      unfold M1.rdNs
      cases M1.rdN w with
      | none => rfl
      | some n => rfl
    | succ k =>
      rw [List.take_succ_cons] at h ⊢
      unfold M1.rdNs at h ⊢
      cases e1 : M1.rdN w with
      | none => rw [e1] at h; cases h
      | some n =>
        rw [e1] at h
        cases e2 : M1.rdNs (t.take k) with
        | none => rw [e2] at h; cases h
        | some ms =>
          rw [e2] at h
          have e3 : n :: ms = ns := by simpa using h
          subst e3
          have := ih (k := k) (by simpa using hk) e2
          simp only
          rw [this]
          simp only [List.getD_cons_succ]
          cases M1.rdN (t.getD k []) <;> simp
theorem rdNs_fail {ws : List (List UInt8)} : ∀ {k : Nat}, k ≤ ws.length → M1.rdNs (ws.take k) = none → M1.rdNs ws = none := by
  induction ws with
  | nil => intro k hk h; simp [M1.rdNs] at h
  | cons w t ih =>
    intro k hk h
    cases k with
    | zero => simp [M1.rdNs] at h
    | succ k =>
      rw [List.take_succ_cons] at h
      unfold M1.rdNs at h ⊢
      cases e1 : M1.rdN w with
      | none => rfl
      | some n =>
        rw [e1] at h
        cases e2 : M1.rdNs (t.take k) with
        | none => simp only; rw [ih (k := k) (by simpa using hk) e2]
        | some ms => rw [e2] at h; cases h

set_option maxHeartbeats 4000000 in
set_option maxRecDepth 100000 in
theorem readDecimals_any (g off n c : Nat) (xs : List ByteArray) (w : World) (h : WdsAt w g off n c xs) (hn : n ≤ 1000) (hl : Hid (∀ x ∈ xs, x.size ≤ maxLen)) :
    Calls Tryz.prog 97 #[.slice (some ⟨g, off, none⟩) n c] w fun e w' => RdsW w w' e (xs.map fun x => x.data.toList) ∧ Below w.heap.size w w' := by
  have hcap := h.cap
  have hmost := h.most
  have hln : Hid (xs.length = n) := h.len
  unfold maxLen at hmost
  go_enter Tryz.func97, Tryz.ntmps97
  go_wp2_with fail
  go_loopw [4, 11] (fun ov iv wr => ∃ (k : Nat) (av : Option Addr) (m c2 : Nat) (ns : List Int), k ≤ n ∧ iv = .int .i64 k ∧ ov = .slice av m c2 ∧ Hid (ns.length = m) ∧ m = k ∧ Hid (M1.rdNs ((xs.map fun x => x.data.toList).take k) = some ns) ∧ wr.ownsRow w.heap.size 2 1 (.slice av m c2) m (iL ns) ∧ Below w.heap.size w wr) (fun _ iv _ => n - (intOf iv).toNat)
  case atStart => exact ⟨0, none, 0, 0, [], Nat.zero_le _, rfl, rfl, rfl, rfl, rfl, ⟨rfl, Or.inl ⟨rfl, rfl⟩⟩, Below.refl _ _⟩
  case round =>
    obtain ⟨k, av, m, c2, ns, hk, rfl, rfl, hm, hmk, hns, own, hB⟩ := hrel
    subst hmk
    have hsB := hB.size
    by_cases hlt : m < n
    · have h2 : WdsAt wr g off n c xs := ⟨h.len, h.cap, h.most, Nat.lt_of_lt_of_le h.lt hB.size, fun i hi => (hB.cell (p := ⟨g, off + i, none⟩) h.lt).trans (h.cell i hi)⟩
      have d0 := h2.cell m hlt
      have hgl := h2.lt
      have hmx : m < xs.length := by rw [hln.out]; exact hlt
      have HX : Hid ((xs.getD m ByteArray.empty).size ≤ maxLen) := hl.out _ (by rw [show xs.getD m ByteArray.empty = xs[m] by simp [List.getD, hmx]]; exact List.getElem_mem _)
      have HT : Hid (M1.rdNs ((xs.map fun x => x.data.toList).take (m + 1)) = match M1.rdN (xs.getD m ByteArray.empty).data.toList with | none => none | some q => some (ns ++ [q])) := (by
        have := rdNs_take (ws := xs.map fun x => x.data.toList) (k := m) (by simpa using hmx) hns.out
        rw [this]
        have e : (xs.map fun x => x.data.toList).getD m [] = (xs.getD m ByteArray.empty).data.toList := by simp [List.getD, hmx]
        rw [e] : _ = _)
      have i0 : (0 : Int) ≤ (m : Int) := by omega
      have i1 : (m : Int) < (n : Int) := by omega
      obtain ⟨x, hx⟩ : ∃ x, Hid (xs.getD m ByteArray.empty = x) := ⟨_, rfl⟩
      rw [hx.out] at d0 HX HT
      obtain ⟨b, hb⟩ : ∃ b, Hid (M1.numB x.data.toList = b) := ⟨_, rfl⟩
      clear hmx
      go_wp2_with fail
      refine (readDecimal_any x _ HX.out).mono ?_
      rw [hb.out]
      rintro e w1 ⟨rfl, rfl⟩
      cases b with
      | false =>
        have HN : Hid (M1.rdNs (xs.map fun x => x.data.toList) = none) := (rdNs_fail (k := m + 1) (by rw [List.length_map, hln.out]; omega) (by rw [HT.out]; unfold M1.rdN; rw [hb.out]; rfl) : _ = _)
        go_wp2_with fail
        refine bodyPost_ret (v := .tuple #[.slice none 0 0, .bool false]) (by simp [results, Tryz.results97, go_sem]) rfl ?_
        exact ⟨by unfold RdsW; rw [HN.out], hB⟩
      | true =>
        have HQ : Hid (M1.rdNs ((xs.map fun x => x.data.toList).take (m + 1)) = some (ns ++ [M1.numV x])) := (by rw [HT.out]; unfold M1.rdN M1.numV; rw [hb.out]; rfl : _ = _)
        have hA : Below w1.heap.size w1 (w1.alloc (.cells #[.int .i64 (M1.numV x)] 2)) := (Below.refl _ _).alloc (Nat.le_refl _) _
        have own2 := owns_below own hA
        have hm2 : Hid ((ns ++ [M1.numV x]).length = m + 1) := (by rw [List.length_append, hm.out]; rfl : _ = _)
        go_wp2_with (at_builtin; refine wpList_appI (by rfl) _ _ rfl w.heap.size _ _ m ns hm.out rfl own2 _ 1 1 [M1.numV x] rfl (src_one w1 _ _) (by omega) (by simp; omega) ?_; intro a4 c4 w4 ow4 hb4)
        have hB4 := (hB.trans (hA.mono hsB)).trans hb4
        exact ⟨⟨m + 1, a4, m + 1, c4, ns ++ [M1.numV x], by omega, by go_num, rfl, hm2, rfl, HQ, ow4, hB4⟩, by simp [intOf]; omega⟩
    · have hmn : m = n := by omega
      have HQ : Hid (M1.rdNs (xs.map fun x => x.data.toList) = some ns) := (by
        have := hns.out
        rw [List.take_of_length_le (by rw [List.length_map, hln.out]; omega)] at this
        exact this : _ = _)
      have mi := MI.of_owns hm.out own
      go_wp2_with fail
      refine bodyPost_ret (v := .tuple #[.slice av m c2, .bool true]) (by simp [results, Tryz.results97, go_sem]) rfl ?_
      refine ⟨?_, hB⟩
      unfold RdsW
      rw [HQ.out]
      exact ⟨av, c2, by rw [hm.out], by rw [hm.out]; exact mi⟩
end Go.Proofs.YtbhidjagmonnaaaGreatDoor
