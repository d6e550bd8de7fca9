/-
  Texts of one proof, joined: MapU, RangeU.
-/
import Derived.Test.YtbhidjagmonnaaaGreatDoorZSegments27
import Derived.Test.YtbhidjagmonnaaaGreatDoorZSegments20
import Derived.Carry
import Derived.Maps.OwnOps
import Derived.Maps.RangeRun
import Derived.Maps.RangeWalk
namespace M1
/-- The same update, field by field. -/
def ueq (a b : Upd) : Bool := decide (a.dr = b.dr ∧ a.dn = b.dn ∧ a.sw = b.sw ∧ a.sc = b.sc ∧ a.sr = b.sr ∧ a.k = b.k ∧ a.tr = b.tr ∧ a.id = b.id ∧ a.pa = b.pa ∧ a.s.toList = b.s.toList ∧ a.st = b.st ∧ a.en = b.en ∧ a.lv = b.lv)
/-- The first update of that dot. -/
def fd : List Upd → Int → Int → Option Upd
  | [], _, _ => none
  | u :: us, r, n => if u.dr = r ∧ u.dn = n then some u else fd us r n
/-- No two have one dot. -/
def apart (us : List Upd) : Prop := ∀ i j, i < j → j < us.length → ¬ ((up us i).dr = (up us j).dr ∧ (up us i).dn = (up us j).dn)
/-- Of one dot there is one update. -/
def agree1 (xs : List Upd) (u : Upd) : Prop := ∀ i, i < xs.length → (up xs i).dr = u.dr ∧ (up xs i).dn = u.dn → ueq (up xs i) u = true
instance (xs : List Upd) (u : Upd) : Decidable (agree1 xs u) := by unfold agree1; exact inferInstance
def agreeTo (xs ys : List Upd) (m : Nat) : Prop := ∀ k, k < m → agree1 xs (up ys k)
instance (xs ys : List Upd) (m : Nat) : Decidable (agreeTo xs ys m) := by unfold agreeTo; exact inferInstance
def agreeB (xs ys : List Upd) : Bool := setOk xs && (setOk ys && decide (agreeTo xs ys ys.length))

theorem agreeTo_succ {xs ys : List Upd} {m : Nat} (h : agreeTo xs ys m) (h1 : agree1 xs (up ys m)) : agreeTo xs ys (m + 1) := fun k hk => by
  by_cases e : k = m
  · rw [e]; exact h1
  · exact h k (by omega)

theorem fd_none {r n : Int} : ∀ {us : List Upd}, fd us r n = none → ∀ i, i < us.length → ¬ ((up us i).dr = r ∧ (up us i).dn = n)
  | [], _, i, hi => absurd hi (by simp)
  | u :: us, h, i, hi => by
    unfold fd at h
    by_cases e : u.dr = r ∧ u.dn = n
    · rw [if_pos e] at h; cases h
    · rw [if_neg e] at h
      cases i with
      | zero => exact e
      | succ i => exact fd_none h i (by simpa using hi)
theorem fd_is_none {r n : Int} : ∀ {us : List Upd}, (∀ i, i < us.length → ¬ ((up us i).dr = r ∧ (up us i).dn = n)) → fd us r n = none
  | [], _ => rfl
  | u :: us, h => by
    unfold fd
    have h0 : ¬ (u.dr = r ∧ u.dn = n) := h 0 (by simp)
    rw [if_neg h0]
    exact fd_is_none fun i hi => h (i + 1) (by simpa using hi)
theorem fd_some {r n : Int} {x : Upd} : ∀ {us : List Upd}, fd us r n = some x → ∃ i, i < us.length ∧ up us i = x ∧ x.dr = r ∧ x.dn = n
  | [], h => by cases h
  | u :: us, h => by
    unfold fd at h
    by_cases e : u.dr = r ∧ u.dn = n
    · rw [if_pos e] at h; cases h; exact ⟨0, by simp, rfl, e.1, e.2⟩
    · rw [if_neg e] at h
      obtain ⟨i, hi, h2⟩ := fd_some h
      exact ⟨i + 1, by simpa using hi, h2⟩

theorem agree_none {xs : List Upd} {u : Upd} (h : fd xs u.dr u.dn = none) : agree1 xs u := fun i hi e => absurd e (fd_none h i hi)
theorem agree_some {xs : List Upd} {u x : Upd} (ha : apart xs) (h : fd xs u.dr u.dn = some x) (he : ueq x u = true) : agree1 xs u := fun i hi e => by
  obtain ⟨j, hj, rfl, e1, e2⟩ := fd_some h
  by_cases c1 : i < j
  · exact absurd ⟨e.1.trans e1.symm, e.2.trans e2.symm⟩ (ha i j c1 hj)
  · by_cases c2 : j < i
    · exact absurd ⟨e1.trans e.1.symm, e2.trans e.2.symm⟩ (ha j i c2 hi)
    · have : i = j := by omega
      rw [this]; exact he
theorem agree_not {xs : List Upd} {u x : Upd} (h : fd xs u.dr u.dn = some x) (he : ueq x u = false) : ¬ agree1 xs u := fun hh => by
  obtain ⟨j, hj, rfl, e1, e2⟩ := fd_some h
  rw [hh j hj ⟨e1, e2⟩] at he; cases he

theorem fol_ahead {a b : Upd} (h : fol a b = true) : a.dr < b.dr ∨ (a.dr = b.dr ∧ a.dn < b.dn) := by
  unfold fol at h
  by_cases e : b.dr = a.dr
  · rw [if_pos e] at h
    simp at h; omega
  · rw [if_neg e] at h
    simp at h; omega
theorem ok_ahead {us : List Upd} (h : ∀ j, j < us.length → okAt us j = true) {i : Nat} : ∀ j, i < j → j < us.length → (up us i).dr < (up us j).dr ∨ ((up us i).dr = (up us j).dr ∧ (up us i).dn < (up us j).dn)
  | 0, hij, _ => absurd hij (by omega)
  | j + 1, hij, hj => by
    have h2 : (up us j).dr < (up us (j + 1)).dr ∨ ((up us j).dr = (up us (j + 1)).dr ∧ (up us j).dn < (up us (j + 1)).dn) := by
      have h3 := h (j + 1) hj
      unfold okAt at h3
      simp at h3
      exact fol_ahead h3.2
    by_cases e : i = j
    · rw [e]; exact h2
    · have h1 := ok_ahead h (i := i) j (by omega) (by omega)
      omega
theorem ok_apart {us : List Upd} (h : ∀ j, j < us.length → okAt us j = true) : apart us := fun i j hij hj e => by
  have := ok_ahead h j hij hj
  omega
theorem fd_take {us : List Upd} (h : apart us) {k : Nat} (hk : k < us.length) : fd (us.take k) (up us k).dr (up us k).dn = none := by
  refine fd_is_none fun i hi => ?_
  have hl : (us.take k).length = k := by simp; omega
  rw [hl] at hi
  have e : up (us.take k) i = up us i := by
    unfold up
    simp [List.getD, hi]
  rw [e]
  exact h i k hi hk
theorem take_up {us : List Upd} {k : Nat} (hk : k < us.length) : us.take (k + 1) = us.take k ++ [up us k] := by
  rw [List.take_add_one]
  unfold up
  simp [List.getD, List.getElem?_eq_getElem hk]
end M1
namespace Go.Proofs.YtbhidjagmonnaaaGreatDoor
open Go.ChangeShapes Go.WideShapes Go.ChangeAt Go.RowKit
set_option linter.unusedSimpArgs false

/-- The values of an update and of its dot. -/
def uv (u : M1.Upd) : Value := .agg #[.int .i64 u.dr, .int .i64 u.dn, .int .i64 u.sw, .int .i64 u.sc, .int .i64 u.sr, .int .i64 u.k, .int .i64 u.tr, .int .i64 u.id, .int .i64 u.pa, .string u.s, .int .i64 u.st, .int .i64 u.en, .int .i64 u.lv]
def dv (r n : Int) : Value := .agg #[.int .i64 r, .int .i64 n]

theorem ite_chain (p : Prop) [Decidable p] (q : Bool) (w : World) : (if p then Result.ok q w else Result.ok false w) = Result.ok (decide p && q) w := by
  by_cases h : p <;> simp [h]

theorem eqDotV (a b c d : Int) (w : World) : (Op.equalIn 10000 41 (.agg #[.int .i64 a, .int .i64 b]) (.agg #[.int .i64 c, .int .i64 d])).run Tryz.prog w = .ok (decide (a = c ∧ b = d)) w := by
  have h := run_equalIn_agg (P := Tryz.prog) w 9999 41 #[.int .i64 a, .int .i64 b] #[.int .i64 c, .int .i64 d] (by kernel_rfl) (by kernel_rfl)
  rw [h]
  simp [go_sem]
  by_cases h1 : a = c <;> by_cases h2 : b = d <;> simp [h1, h2]

theorem checkDot (e : Bool) (a b : Int) (w : World) : (Instr.checkKey e 10000 41 (.agg #[.int .i64 a, .int .i64 b])).run Tryz.prog w = .ok () w := by
  cases e <;> kernel_rfl

set_option maxHeartbeats 2000000 in
set_option maxRecDepth 100000 in
theorem eqU (a b : M1.Upd) (w : World) : (Op.equalIn 10000 47 (.agg #[.int .i64 a.dr, .int .i64 a.dn, .int .i64 a.sw, .int .i64 a.sc, .int .i64 a.sr, .int .i64 a.k, .int .i64 a.tr, .int .i64 a.id, .int .i64 a.pa, .string a.s, .int .i64 a.st, .int .i64 a.en, .int .i64 a.lv]) (.agg #[.int .i64 b.dr, .int .i64 b.dn, .int .i64 b.sw, .int .i64 b.sc, .int .i64 b.sr, .int .i64 b.k, .int .i64 b.tr, .int .i64 b.id, .int .i64 b.pa, .string b.s, .int .i64 b.st, .int .i64 b.en, .int .i64 b.lv])).run Tryz.prog w = .ok (M1.ueq a b) w := by
  have h := run_equalIn_agg (P := Tryz.prog) w 9999 47 #[.int .i64 a.dr, .int .i64 a.dn, .int .i64 a.sw, .int .i64 a.sc, .int .i64 a.sr, .int .i64 a.k, .int .i64 a.tr, .int .i64 a.id, .int .i64 a.pa, .string a.s, .int .i64 a.st, .int .i64 a.en, .int .i64 a.lv] #[.int .i64 b.dr, .int .i64 b.dn, .int .i64 b.sw, .int .i64 b.sc, .int .i64 b.sr, .int .i64 b.k, .int .i64 b.tr, .int .i64 b.id, .int .i64 b.pa, .string b.s, .int .i64 b.st, .int .i64 b.en, .int .i64 b.lv] (by kernel_rfl) (by kernel_rfl)
  rw [h]
  simp [go_sem]
  simp only [ite_chain]
  unfold M1.ueq
  congr 1
  simp

/-- Block b is a map that has just the updates us, in the order in which they were put there. -/
def MapIs (w : World) (b : Nat) (us : List M1.Upd) : Prop := ∃ es clock, w.heap[b]? = some (.map es clock) ∧ es.toList.map (fun e => (e.key, e.val)) = us.map (fun u => (dv u.dr u.dn, uv u))

theorem MapIs.lt {w : World} {b : Nat} {us : List M1.Upd} (h : MapIs w b us) : b < w.heap.size := by
  obtain ⟨es, clock, hb, _⟩ := h
  exact (Array.getElem?_eq_some_iff.1 hb).1
theorem MapIs.block {w w' : World} {b : Nat} {us : List M1.Upd} (h : MapIs w b us) (e : w'.heap[b]? = w.heap[b]?) : MapIs w' b us := by
  obtain ⟨es, clock, hb, h2⟩ := h
  exact ⟨es, clock, e.trans hb, h2⟩
theorem MapIs.below {w w' : World} {b B : Nat} {us : List M1.Upd} (h : MapIs w b us) (hB : Below B w w') (hb : b < B) : MapIs w' b us := h.block (hB.block b hb)
theorem MapIs.alloc {w : World} {b : Nat} {us : List M1.Upd} (h : MapIs w b us) (o : Obj) : MapIs (w.alloc o) b us :=
  h.below ((Below.refl w.heap.size w).alloc (Nat.le_refl _) o) h.lt
theorem MapIs.made (w : World) : MapIs (w.alloc (.map #[] 0)) w.heap.size [] := ⟨#[], 0, (MapKept.heap_alloc w _).1, rfl⟩

theorem find_any (r n : Int) (w : World) : ∀ (es : List MapEntry) (us : List M1.Upd) (i : Nat), es.map (fun e => (e.key, e.val)) = us.map (fun u => (dv u.dr u.dn, uv u)) →
    ∃ o, (Instr.findAsking 41 (dv r n) es i).run Tryz.prog w = .ok o w ∧ o.map (·.2) = (M1.fd us r n).map uv
  | [], [], i, _ => ⟨none, rfl, rfl⟩
  | [], _ :: _, _, h => by cases h
  | _ :: _, [], _, h => by cases h
  | e :: es, u :: us, i, h => by
    rw [List.map_cons, List.map_cons, List.cons.injEq, Prod.mk.injEq] at h
    obtain ⟨⟨h1, h2⟩, h3⟩ := h
    have hq : (Op.equal 41 (dv r n) e.key).run Tryz.prog w = .ok (decide (r = u.dr ∧ n = u.dn)) w := by
      rw [h1]; exact eqDotV r n u.dr u.dn w
    unfold Instr.findAsking M1.fd
    by_cases c : u.dr = r ∧ u.dn = n
    · refine ⟨some (i, e.val), ?_, ?_⟩
      · simp [hq, Result.andThen, c.1, c.2]
      · rw [if_pos c, Option.map_some, Option.map_some, h2]
    · obtain ⟨o, ho1, ho2⟩ := find_any r n w es us (i + 1) h3
      refine ⟨o, ?_, ?_⟩
      · have c' : ¬ (r = u.dr ∧ n = u.dn) := fun x => c ⟨x.1.symm, x.2.symm⟩
        simp only [Sem.run_bind, hq, Result.andThen, decide_eq_false c', Bool.false_eq_true, if_false]
        exact ho1
      · rw [if_neg c]; exact ho2

theorem findKey_any (r n : Int) (w : World) (es : List MapEntry) (us : List M1.Upd) (h : es.map (fun e => (e.key, e.val)) = us.map (fun u => (dv u.dr u.dn, uv u))) :
    ∃ o, (Instr.findKey 41 (dv r n) es).run Tryz.prog w = .ok o w ∧ o.map (·.2) = (M1.fd us r n).map uv := by
  cases es with
  | nil =>
    cases us with
    | nil =>
      refine ⟨none, ?_, rfl⟩
      unfold Instr.findKey
      simp [run_underlying Tryz.underlying41, Result.andThen, Instr.findNow]
    | cons => cases h
  | cons e es =>
    obtain ⟨o, ho1, ho2⟩ := find_any r n w (e :: es) us 0 h
    refine ⟨o, ?_, ho2⟩
    rw [← ho1]
    unfold Instr.findKey
    simp [run_underlying Tryz.underlying41, Result.andThen, Instr.findNow, Instr.sameNow]

theorem zeroUpd (w : World) : (zeroValue 47).run Tryz.prog w = .ok (uv M1.zeroU) w := by kernel_rfl

theorem run_lookupU {w : World} {b : Nat} {us : List M1.Upd} (h : MapIs w b us) (r n : Int) :
    (Instr.lookup 114 (.map (some b)) (dv r n) true).run Tryz.prog w = .ok (.tuple #[uv ((M1.fd us r n).getD M1.zeroU), .bool (M1.fd us r n).isSome]) w := by
  obtain ⟨es, clock, hb, h2⟩ := h
  obtain ⟨o, ho1, ho2⟩ := findKey_any r n w es.toList us h2
  have hc : ∀ e, (Instr.checkKey e 10000 41 (dv r n)).run Tryz.prog w = .ok () w := fun e => checkDot e r n w
  cases hf : M1.fd us r n with
  | none =>
    rw [hf] at ho2
    cases o with
    | some => cases ho2
    | none => simp [Instr.lookup, run_underlying Tryz.underlying114, MapKept.run_getObj_map hb, hc, ho1, zeroUpd, Result.andThen]; rfl
  | some x =>
    rw [hf] at ho2
    cases o with
    | none => cases ho2
    | some p =>
      obtain ⟨i, v⟩ := p
      have hv : v = uv x := by simpa using ho2
      subst hv
      simp [Instr.lookup, run_underlying Tryz.underlying114, MapKept.run_getObj_map hb, hc, ho1, Result.andThen]

theorem run_updateU {w : World} {b : Nat} {us : List M1.Upd} (h : MapIs w b us) (u : M1.Upd) (hf : M1.fd us u.dr u.dn = none) :
    ∃ w', (Instr.mapUpdate 114 (.map (some b)) (dv u.dr u.dn) (uv u)).run Tryz.prog w = .ok () w' ∧ MapIs w' b (us ++ [u]) ∧ w.grownBy w' (some b) := by
  obtain ⟨es, clock, hb, h2⟩ := h
  obtain ⟨o, ho1, ho2⟩ := findKey_any u.dr u.dn w es.toList us h2
  have hc : (Instr.checkKey false 10000 41 (dv u.dr u.dn)).run Tryz.prog w = .ok () w := checkDot _ _ _ w
  rw [hf] at ho2
  cases o with
  | some => cases ho2
  | none =>
    refine ⟨ChangeMaps.setBlock w b (.map (es.push ⟨dv u.dr u.dn, uv u, clock⟩) (clock + 1)), ?_, ⟨_, _, ChangeMaps.heap_setBlock_same hb _, ?_⟩, ⟨rfl, rfl, rfl, by simp [ChangeMaps.setBlock], fun i _ hi => ChangeMaps.heap_setBlock_other hb _ (fun e => hi (by rw [e]))⟩⟩
    · simp [Instr.mapUpdate, run_underlying Tryz.underlying114, MapKept.run_getObj_map hb, hc, ho1, MapKept.run_setObj_map _ hb, Result.andThen, ChangeMaps.setBlock]
    · simp [h2]

theorem wpList_mapU {w : World} {ops : Array Oper} {rest : List Oper} {o : Oper} {a : Act} {Q : Exit → Act → World → Prop}
    (hg : o.guard = none) (m x v : Operand) (hop : o.op = Op.mapUpdate 114 m x v) (b : Nat) (us : List M1.Upd) (u : M1.Upd)
    (hm : a.eval m = .map (some b)) (hown : MapIs w b us) (hf : M1.fd us u.dr u.dn = none) (hx : a.eval x = dv u.dr u.dn) (hv : a.eval v = uv u)
    (hK : ∀ w', MapIs w' b (us ++ [u]) → w.grownBy w' (some b) → wpList Tryz.prog ops Q rest (a.put o.dst undef) w') :
    wpList Tryz.prog ops Q (o :: rest) a w := by
  refine wpList_plain hg fun K' hK' => ?_
  obtain ⟨w', hrun, r1, r2⟩ := run_updateU hown u hf
  unfold Oper.wp
  simp [execOp, hop, hm, hx, hv, hrun, Result.andThen]
  exact hK' _ _ (hK w' r1 r2)

theorem wpList_lookU {w : World} {ops : Array Oper} {rest : List Oper} {o : Oper} {a : Act} {Q : Exit → Act → World → Prop}
    (hg : o.guard = none) (m x : Operand) (hop : o.op = Op.lookup 114 m x true) (b : Nat) (us : List M1.Upd) (r n : Int)
    (hm : a.eval m = .map (some b)) (hown : MapIs w b us) (hx : a.eval x = dv r n) (p : M1.Upd) (q : Bool) (hp : (M1.fd us r n).getD M1.zeroU = p) (hq : (M1.fd us r n).isSome = q)
    (hK : wpList Tryz.prog ops Q rest (a.put o.dst (.tuple #[uv p, .bool q])) w) :
    wpList Tryz.prog ops Q (o :: rest) a w := by
  refine wpList_plain hg fun K' hK' => ?_
  have hrun := run_lookupU hown r n
  rw [hp, hq] at hrun
  unfold Oper.wp
  simp [execOp, hop, hm, hx, hrun, Result.andThen]
  exact hK' _ _ hK
end Go.Proofs.YtbhidjagmonnaaaGreatDoor

namespace M1
theorem nodup_sub : ∀ {l m : List Nat}, l.Nodup → (∀ x ∈ l, x ∈ m) → l.length ≤ m.length
  | [], m, _, _ => Nat.zero_le _
  | a :: t, m, hn, hs => by
    rw [List.nodup_cons] at hn
    have ha : a ∈ m := hs a List.mem_cons_self
    have h1 := nodup_sub (l := t) (m := m.erase a) hn.2 fun x hx => (List.mem_erase_of_ne (show x ≠ a from fun e => hn.1 (by rw [← e]; exact hx))).2 (hs x (List.mem_cons_of_mem _ hx))
    have h2 := (List.perm_cons_erase ha).length_eq
    simp at h2 ⊢
    omega
theorem nodup_perm : ∀ {l m : List Nat}, l.Nodup → (∀ x ∈ l, x ∈ m) → m.length ≤ l.length → l.Perm m
  | [], m, _, _, h => by
    have : m = [] := List.eq_nil_of_length_eq_zero (by simpa using h)
    rw [this]
  | a :: t, m, hn, hs, h => by
    rw [List.nodup_cons] at hn
    have ha : a ∈ m := hs a List.mem_cons_self
    have hp := List.perm_cons_erase ha
    have h2 := hp.length_eq
    simp at h2 h
    exact ((nodup_perm (l := t) (m := m.erase a) hn.2 (fun x hx => (List.mem_erase_of_ne (show x ≠ a from fun e => hn.1 (by rw [← e]; exact hx))).2 (hs x (List.mem_cons_of_mem _ hx))) (by omega)).cons a).trans hp.symm
end M1
namespace Go.Proofs.YtbhidjagmonnaaaGreatDoor
open Go.ChangeShapes Go.WideShapes Go.ChangeAt Go.RowKit
open Go.ChangeMaps (setBlock)
set_option linter.unusedSimpArgs false
set_option linter.unusedVariables false

/-- Block b is a map that has just the updates us, each entry born at its place. -/
def MapN (w : World) (b : Nat) (us : List M1.Upd) : Prop :=
  ∃ es : Array MapEntry, w.heap[b]? = some (.map es us.length) ∧ es.toList.map (fun e => (e.key, e.val)) = us.map (fun u => (dv u.dr u.dn, uv u)) ∧ es.toList.map (·.born) = List.range us.length

theorem MapN.is {w : World} {b : Nat} {us : List M1.Upd} (h : MapN w b us) : MapIs w b us := by
  obtain ⟨es, h1, h2, _⟩ := h
  exact ⟨es, _, h1, h2⟩
theorem MapN.lt {w : World} {b : Nat} {us : List M1.Upd} (h : MapN w b us) : b < w.heap.size := h.is.lt
theorem MapN.block {w w' : World} {b : Nat} {us : List M1.Upd} (h : MapN w b us) (e : w'.heap[b]? = w.heap[b]?) : MapN w' b us := by
  obtain ⟨es, hb, h2⟩ := h
  exact ⟨es, e.trans hb, h2⟩
theorem MapN.below {w w' : World} {b B : Nat} {us : List M1.Upd} (h : MapN w b us) (hB : Below B w w') (hb : b < B) : MapN w' b us := h.block (hB.block b hb)
theorem MapN.made (w : World) : MapN (w.alloc (.map #[] 0)) w.heap.size [] := ⟨#[], (MapKept.heap_alloc w _).1, rfl, rfl⟩

/-- An entry of it: its place. -/
theorem entry_at {es : Array MapEntry} {us : List M1.Upd} (h2 : es.toList.map (fun e => (e.key, e.val)) = us.map (fun u => (dv u.dr u.dn, uv u))) (h3 : es.toList.map (·.born) = List.range us.length) {e : MapEntry} (he : e ∈ es.toList) :
    e.born < us.length ∧ e.key = dv (M1.up us e.born).dr (M1.up us e.born).dn ∧ e.val = uv (M1.up us e.born) := by
  obtain ⟨j, hj⟩ := List.mem_iff_getElem?.1 he
  have b1 : (es.toList.map (·.born))[j]? = some e.born := by rw [List.getElem?_map, hj]; rfl
  rw [h3] at b1
  have b2 := List.getElem?_eq_some_iff.1 b1
  obtain ⟨b3, b4⟩ := b2
  simp at b3 b4
  have k1 : (es.toList.map (fun e => (e.key, e.val)))[j]? = some (e.key, e.val) := by rw [List.getElem?_map, hj]; rfl
  rw [h2, List.getElem?_map, List.getElem?_eq_getElem b3] at k1
  simp at k1
  have hu : M1.up us j = us[j] := by simp [M1.up, List.getD, b3]
  rw [← b4, hu]
  exact ⟨b3, k1.1.symm, k1.2.symm⟩

/-- Block r is an iterator over that map that has handed out the places sn. -/
structure ItN (w : World) (r b : Nat) (us : List M1.Upd) (sn : List Nat) : Prop where
  it : w.heap[r]? = some (.mapIter (some b) us.length sn.toArray us.length)
  map : MapN w b us
  nd : sn.Nodup
  lt : ∀ i ∈ sn, i < us.length

theorem ItN.rlt {w : World} {r b : Nat} {us : List M1.Upd} {sn : List Nat} (h : ItN w r b us sn) : r < w.heap.size := (Array.getElem?_eq_some_iff.1 h.it).1
theorem ItN.ne {w : World} {r b : Nat} {us : List M1.Upd} {sn : List Nat} (h : ItN w r b us sn) : ¬ r = b := fun e => by
  obtain ⟨es, hb, _⟩ := h.map
  have := h.it
  rw [e, hb] at this
  cases this
theorem ItN.kept {w w' : World} {r b : Nat} {us : List M1.Upd} {sn : List Nat} (h : ItN w r b us sn) (e1 : w'.heap[r]? = w.heap[r]?) (e2 : w'.heap[b]? = w.heap[b]?) : ItN w' r b us sn := ⟨e1.trans h.it, h.map.block e2, h.nd, h.lt⟩
theorem ItN.below {w w' : World} {r b : Nat} {us : List M1.Upd} {sn : List Nat} (h : ItN w r b us sn) (hB : Below w.heap.size w w') : ItN w' r b us sn := h.kept (hB.block r h.rlt) (hB.block b h.map.lt)
theorem ItN.len {w : World} {r b : Nat} {us : List M1.Upd} {sn : List Nat} (h : ItN w r b us sn) : sn.length ≤ us.length := by
  have hs : sn ⊆ List.range us.length := fun i hi => by simp; exact h.lt i hi
  have := M1.nodup_sub h.nd hs
  simpa using this

theorem it_made {w : World} {b : Nat} {us : List M1.Upd} (h : MapN w b us) : ItN (w.alloc (.mapIter (some b) us.length #[] us.length)) w.heap.size b us [] := by
  refine ⟨heap_alloc_new w _, h.below ((Below.refl w.heap.size w).alloc (Nat.le_refl _) _) h.lt, List.nodup_nil, fun i hi => by cases hi⟩

theorem run_nextN {w : World} {r b : Nat} {us : List M1.Upd} {sn : List Nat} (h : ItN w r b us sn) (ty : TypeId) :
    (sn.length = us.length ∧ (Instr.next (.pointer (some ⟨r, 0, none⟩)) false ty).run Tryz.prog w = .ok (.tuple #[.bool false]) w) ∨
    ∃ i w', i < us.length ∧ (Instr.next (.pointer (some ⟨r, 0, none⟩)) false ty).run Tryz.prog w = .ok (.tuple #[.bool true, dv (M1.up us i).dr (M1.up us i).dn, uv (M1.up us i)]) w' ∧ ItN w' r b us (sn ++ [i]) ∧ w.grownBy w' (some r) ∧ w'.heap.size = w.heap.size ∧
      (Instr.entry (.pointer (some ⟨r, 0, none⟩))).run Tryz.prog w' = .ok (.tuple #[dv (M1.up us i).dr (M1.up us i).dn, uv (M1.up us i)]) w' := by
  have hne := h.ne
  obtain ⟨es, hb, h2, h3⟩ := h.map
  have hold : ∀ x ∈ es.toList, x.born < us.length := fun x hx => (entry_at h2 h3 hx).1
  rcases run_next_at (P := Tryz.prog) w ty r b us.length us.length sn.toArray es us.length h.it hb hold (Nat.le_refl _) with ⟨h0, hrun⟩ | ⟨e, he, w1, hw1, hrun⟩
  · left
    refine ⟨?_, hrun⟩
    have hall : List.range us.length ⊆ sn := fun i hi => by
      have hi' : i ∈ es.toList.map (·.born) := by rw [h3]; exact hi
      obtain ⟨e, he, rfl⟩ := List.mem_map.1 hi'
      by_cases hc : e.born ∈ sn
      · exact hc
      · have : e ∈ (leftOf es sn.toArray).toList := by
          unfold leftOf
          simp
          exact ⟨by simpa using he, hc⟩
        have hz : (leftOf es sn.toArray).toList = [] := by
          have : leftOf es sn.toArray = #[] := Array.eq_empty_of_size_eq_zero h0
          rw [this]
        rw [hz] at this
        cases this
    have l1 := h.len
    have l2 := M1.nodup_sub (List.nodup_range) hall
    simp at l2
    omega
  · right
    have he2 : e ∈ es.toList ∧ e.born ∉ sn := by
      unfold leftOf at he
      simp at he
      exact ⟨by simpa using he.1, he.2⟩
    obtain ⟨hlt, hk, hv⟩ := entry_at h2 h3 he2.1
    have hr1 : w1.heap[r]? = some (.mapIter (some b) us.length sn.toArray us.length) := by rcases hw1 with rfl | rfl <;> exact h.it
    have hb1 : w1.heap[b]? = some (.map es us.length) := by rcases hw1 with rfl | rfl <;> exact hb
    have hs1 : w1.heap = w.heap := by rcases hw1 with rfl | rfl <;> rfl
    have hitr : (setBlock w1 r (.mapIter (some b) us.length (sn.toArray.push e.born) us.length)).heap[r]? = some (.mapIter (some b) us.length (sn.toArray.push e.born) us.length) := by
      have := (Array.getElem?_eq_some_iff.1 hr1).1
      simp [setBlock, this]
    have hmap : (setBlock w1 r (.mapIter (some b) us.length (sn.toArray.push e.born) us.length)).heap[b]? = some (.map es us.length) := by
      simp [setBlock, hne, hb1]
    refine ⟨e.born, setBlock w1 r (.mapIter (some b) us.length (sn.toArray.push e.born) us.length), hlt, by rw [hrun, ← hk, ← hv], ⟨by rw [hitr]; simp, ⟨es, hmap, h2, h3⟩, ?_, ?_⟩, ?_, by simp [setBlock, hs1], ?_⟩
    · rw [List.nodup_append]
      exact ⟨h.nd, by simp, fun x hx y hy => by simp at hy; subst hy; intro e; subst e; exact he2.2 hx⟩
    · intro i hi
      rcases List.mem_append.1 hi with hi | hi
      · exact h.lt i hi
      · simp at hi; rw [hi]; exact hlt
    · refine ⟨?_, ?_, ?_, by simp [setBlock, hs1], fun k hk hn => ?_⟩
      · rcases hw1 with rfl | rfl <;> rfl
      · rcases hw1 with rfl | rfl <;> rfl
      · rcases hw1 with rfl | rfl <;> rfl
      · have : ¬ r = k := fun e => hn (by rw [e])
        simp [setBlock, this, hs1]
    · have := run_entry_at (P := Tryz.prog) (setBlock w1 r (.mapIter (some b) us.length (sn.toArray.push e.born) us.length)) r b us.length sn.toArray es us.length e hitr hmap he2.1 (by rw [h3]; exact List.nodup_range)
      rw [this, ← hk, ← hv]

theorem wpList_rangeN {w : World} {ops : Array Oper} {rest : List Oper} {o : Oper} {a : Act} {Q : Exit → Act → World → Prop}
    (hg : o.guard = none) (m : Operand) (hop : o.op = Op.range 114 m) (b : Nat) (us : List M1.Upd) (hm : a.eval m = .map (some b)) (hown : MapN w b us)
    (hK : ∀ w', ItN w' w.heap.size b us [] → Below w.heap.size w w' → w'.heap.size = w.heap.size + 1 → wpList Tryz.prog ops Q rest (a.put o.dst (.pointer (some ⟨w.heap.size, 0, none⟩))) w') :
    wpList Tryz.prog ops Q (o :: rest) a w := by
  refine wpList_plain hg fun K' hK' => ?_
  obtain ⟨es, hb, h2⟩ := hown
  have hrun := run_range_map (P := Tryz.prog) w 114 _ _ b es us.length Tryz.underlying114 hb
  unfold Oper.wp
  simp [execOp, hop, hm, hrun, Result.andThen]
  exact hK' _ _ (hK _ (it_made ⟨es, hb, h2⟩) ((Below.refl _ _).alloc (Nat.le_refl _) _) (by simp))

theorem wpList_nextN {w : World} {ops : Array Oper} {rest : List Oper} {o : Oper} {a : Act} {Q : Exit → Act → World → Prop}
    (hg : o.guard = none) (it : Operand) (hop : o.op = Op.next it false) (r b : Nat) (us : List M1.Upd) (sn : List Nat) (hit : a.eval it = .pointer (some ⟨r, 0, none⟩)) (h : ItN w r b us sn)
    (hDone : sn.length = us.length → wpList Tryz.prog ops Q rest (a.put o.dst (.tuple #[.bool false])) w)
    (hMore : ∀ i w', i < us.length → ItN w' r b us (sn ++ [i]) → w.grownBy w' (some r) → w'.heap.size = w.heap.size → (Instr.entry (.pointer (some ⟨r, 0, none⟩))).run Tryz.prog w' = .ok (.tuple #[dv (M1.up us i).dr (M1.up us i).dn, uv (M1.up us i)]) w' →
      wpList Tryz.prog ops Q rest (a.put o.dst (.tuple #[.bool true, dv (M1.up us i).dr (M1.up us i).dn, uv (M1.up us i)])) w') :
    wpList Tryz.prog ops Q (o :: rest) a w := by
  refine wpList_plain hg fun K' hK' => ?_
  unfold Oper.wp
  rcases run_nextN h o.type with ⟨h0, hrun⟩ | ⟨i, w', hi, hrun, h1, h2, h3, h4⟩
  · simp [execOp, hop, hit, hrun, Result.andThen]
    exact hK' _ _ (hDone h0)
  · simp [execOp, hop, hit, hrun, Result.andThen]
    exact hK' _ _ (hMore i w' hi h1 h2 h3 h4)
end Go.Proofs.YtbhidjagmonnaaaGreatDoor
