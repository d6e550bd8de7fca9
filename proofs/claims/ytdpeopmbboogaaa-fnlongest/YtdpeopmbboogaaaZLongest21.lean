/-
  Two updates compared; a map of updates by their dots: a look-up and a store, with their laws for the walk; lists of updates that agree.
-/
import Derived.Test.YtdpeopmbboogaaaZLongest05
import Derived.Test.YtdpeopmbboogaaaZLongest17
import Derived.Carry
import Derived.Maps.OwnOps
namespace M1
/-- The same update, field by field. -/
def ueq (a b : Upd) : Bool := decide (a.dr = b.dr ∧ a.dn = b.dn ∧ a.sw = b.sw ∧ a.sc = b.sc ∧ a.sr = b.sr ∧ a.k = b.k ∧ a.tr = b.tr ∧ a.id = b.id ∧ a.pa = b.pa ∧ a.s.toList = b.s.toList ∧ a.st = b.st ∧ a.en = b.en ∧ a.lv = b.lv)
/-- The first update of that dot. -/
def fd : List Upd → Int → Int → Option Upd
  | [], _, _ => none
  | u :: us, r, n => if u.dr = r ∧ u.dn = n then some u else fd us r n
/-- No two have one dot. -/
def apart (us : List Upd) : Prop := ∀ i j, i < j → j < us.length → ¬ ((up us i).dr = (up us j).dr ∧ (up us i).dn = (up us j).dn)
/-- Of one dot there is one update. -/
def agree1 (xs : List Upd) (u : Upd) : Prop := ∀ i, i < xs.length → (up xs i).dr = u.dr ∧ (up xs i).dn = u.dn → ueq (up xs i) u = true
instance (xs : List Upd) (u : Upd) : Decidable (agree1 xs u) := by unfold agree1; exact inferInstance
def agreeTo (xs ys : List Upd) (m : Nat) : Prop := ∀ k, k < m → agree1 xs (up ys k)
instance (xs ys : List Upd) (m : Nat) : Decidable (agreeTo xs ys m) := by unfold agreeTo; exact inferInstance
def agreeB (xs ys : List Upd) : Bool := setOk xs && (setOk ys && decide (agreeTo xs ys ys.length))

theorem agreeTo_succ {xs ys : List Upd} {m : Nat} (h : agreeTo xs ys m) (h1 : agree1 xs (up ys m)) : agreeTo xs ys (m + 1) := fun k hk => by
  by_cases e : k = m
  · rw [e]; exact h1
  · exact h k (by omega)

theorem fd_none {r n : Int} : ∀ {us : List Upd}, fd us r n = none → ∀ i, i < us.length → ¬ ((up us i).dr = r ∧ (up us i).dn = n)
  | [], _, i, hi => absurd hi (by simp)
  | u :: us, h, i, hi => by
    unfold fd at h
    by_cases e : u.dr = r ∧ u.dn = n
    · rw [if_pos e] at h; cases h
    · rw [if_neg e] at h
      cases i with
      | zero => exact e
      | succ i => exact fd_none h i (by simpa using hi)
theorem fd_is_none {r n : Int} : ∀ {us : List Upd}, (∀ i, i < us.length → ¬ ((up us i).dr = r ∧ (up us i).dn = n)) → fd us r n = none
  | [], _ => rfl
  | u :: us, h => by
    unfold fd
    have h0 : ¬ (u.dr = r ∧ u.dn = n) := h 0 (by simp)
    rw [if_neg h0]
    exact fd_is_none fun i hi => h (i + 1) (by simpa using hi)
theorem fd_some {r n : Int} {x : Upd} : ∀ {us : List Upd}, fd us r n = some x → ∃ i, i < us.length ∧ up us i = x ∧ x.dr = r ∧ x.dn = n
  | [], h => by cases h
  | u :: us, h => by
    unfold fd at h
    by_cases e : u.dr = r ∧ u.dn = n
    · rw [if_pos e] at h; cases h; exact ⟨0, by simp, rfl, e.1, e.2⟩
    · rw [if_neg e] at h
      obtain ⟨i, hi, h2⟩ := fd_some h
      exact ⟨i + 1, by simpa using hi, h2⟩

theorem agree_none {xs : List Upd} {u : Upd} (h : fd xs u.dr u.dn = none) : agree1 xs u := fun i hi e => absurd e (fd_none h i hi)
theorem agree_some {xs : List Upd} {u x : Upd} (ha : apart xs) (h : fd xs u.dr u.dn = some x) (he : ueq x u = true) : agree1 xs u := fun i hi e => by
  obtain ⟨j, hj, rfl, e1, e2⟩ := fd_some h
  by_cases c1 : i < j
  · exact absurd ⟨e.1.trans e1.symm, e.2.trans e2.symm⟩ (ha i j c1 hj)
  · by_cases c2 : j < i
    · exact absurd ⟨e1.trans e.1.symm, e2.trans e.2.symm⟩ (ha j i c2 hi)
    · have : i = j := by omega
      rw [this]; exact he
theorem agree_not {xs : List Upd} {u x : Upd} (h : fd xs u.dr u.dn = some x) (he : ueq x u = false) : ¬ agree1 xs u := fun hh => by
  obtain ⟨j, hj, rfl, e1, e2⟩ := fd_some h
  rw [hh j hj ⟨e1, e2⟩] at he; cases he

theorem fol_ahead {a b : Upd} (h : fol a b = true) : a.dr < b.dr ∨ (a.dr = b.dr ∧ a.dn < b.dn) := by
  unfold fol at h
  by_cases e : b.dr = a.dr
  · rw [if_pos e] at h
    simp at h; omega
  · rw [if_neg e] at h
    simp at h; omega
theorem ok_ahead {us : List Upd} (h : ∀ j, j < us.length → okAt us j = true) {i : Nat} : ∀ j, i < j → j < us.length → (up us i).dr < (up us j).dr ∨ ((up us i).dr = (up us j).dr ∧ (up us i).dn < (up us j).dn)
  | 0, hij, _ => absurd hij (by omega)
  | j + 1, hij, hj => by
    have h2 : (up us j).dr < (up us (j + 1)).dr ∨ ((up us j).dr = (up us (j + 1)).dr ∧ (up us j).dn < (up us (j + 1)).dn) := by
      have h3 := h (j + 1) hj
      unfold okAt at h3
      simp at h3
      exact fol_ahead h3.2
    by_cases e : i = j
    · rw [e]; exact h2
    · have h1 := ok_ahead h (i := i) j (by omega) (by omega)
      omega
theorem ok_apart {us : List Upd} (h : ∀ j, j < us.length → okAt us j = true) : apart us := fun i j hij hj e => by
  have := ok_ahead h j hij hj
  omega
theorem fd_take {us : List Upd} (h : apart us) {k : Nat} (hk : k < us.length) : fd (us.take k) (up us k).dr (up us k).dn = none := by
  refine fd_is_none fun i hi => ?_
  have hl : (us.take k).length = k := by simp; omega
  rw [hl] at hi
  have e : up (us.take k) i = up us i := by
    unfold up
    simp [List.getD, hi]
  rw [e]
  exact h i k hi hk
theorem take_up {us : List Upd} {k : Nat} (hk : k < us.length) : us.take (k + 1) = us.take k ++ [up us k] := by
  rw [List.take_add_one]
  unfold up
  simp [List.getD, List.getElem?_eq_getElem hk]
end M1
namespace Go.Proofs.Ytdpeopmbboogaaa
open Go.ChangeShapes Go.WideShapes Go.ChangeAt Go.RowKit
set_option linter.unusedSimpArgs false

/-- The values of an update and of its dot. -/
def uv (u : M1.Upd) : Value := .agg #[.int .i64 u.dr, .int .i64 u.dn, .int .i64 u.sw, .int .i64 u.sc, .int .i64 u.sr, .int .i64 u.k, .int .i64 u.tr, .int .i64 u.id, .int .i64 u.pa, .string u.s, .int .i64 u.st, .int .i64 u.en, .int .i64 u.lv]
def dv (r n : Int) : Value := .agg #[.int .i64 r, .int .i64 n]

theorem ite_chain (p : Prop) [Decidable p] (q : Bool) (w : World) : (if p then Result.ok q w else Result.ok false w) = Result.ok (decide p && q) w := by
  by_cases h : p <;> simp [h]

theorem eqDotV (a b c d : Int) (w : World) : (Op.equalIn 10000 59 (.agg #[.int .i64 a, .int .i64 b]) (.agg #[.int .i64 c, .int .i64 d])).run Try.prog w = .ok (decide (a = c ∧ b = d)) w := by
  have h := run_equalIn_agg (P := Try.prog) w 9999 59 #[.int .i64 a, .int .i64 b] #[.int .i64 c, .int .i64 d] (by kernel_rfl) (by kernel_rfl)
  rw [h]
  simp [go_sem]
  by_cases h1 : a = c <;> by_cases h2 : b = d <;> simp [h1, h2]

theorem checkDot (e : Bool) (a b : Int) (w : World) : (Instr.checkKey e 10000 59 (.agg #[.int .i64 a, .int .i64 b])).run Try.prog w = .ok () w := by
  cases e <;> kernel_rfl

set_option maxHeartbeats 2000000 in
set_option maxRecDepth 100000 in
theorem eqU (a b : M1.Upd) (w : World) : (Op.equalIn 10000 63 (.agg #[.int .i64 a.dr, .int .i64 a.dn, .int .i64 a.sw, .int .i64 a.sc, .int .i64 a.sr, .int .i64 a.k, .int .i64 a.tr, .int .i64 a.id, .int .i64 a.pa, .string a.s, .int .i64 a.st, .int .i64 a.en, .int .i64 a.lv]) (.agg #[.int .i64 b.dr, .int .i64 b.dn, .int .i64 b.sw, .int .i64 b.sc, .int .i64 b.sr, .int .i64 b.k, .int .i64 b.tr, .int .i64 b.id, .int .i64 b.pa, .string b.s, .int .i64 b.st, .int .i64 b.en, .int .i64 b.lv])).run Try.prog w = .ok (M1.ueq a b) w := by
  have h := run_equalIn_agg (P := Try.prog) w 9999 63 #[.int .i64 a.dr, .int .i64 a.dn, .int .i64 a.sw, .int .i64 a.sc, .int .i64 a.sr, .int .i64 a.k, .int .i64 a.tr, .int .i64 a.id, .int .i64 a.pa, .string a.s, .int .i64 a.st, .int .i64 a.en, .int .i64 a.lv] #[.int .i64 b.dr, .int .i64 b.dn, .int .i64 b.sw, .int .i64 b.sc, .int .i64 b.sr, .int .i64 b.k, .int .i64 b.tr, .int .i64 b.id, .int .i64 b.pa, .string b.s, .int .i64 b.st, .int .i64 b.en, .int .i64 b.lv] (by kernel_rfl) (by kernel_rfl)
  rw [h]
  simp [go_sem]
  simp only [ite_chain]
  unfold M1.ueq
  congr 1
  simp

/-- Block b is a map that has just the updates us, in the order in which they were put there. -/
def MapIs (w : World) (b : Nat) (us : List M1.Upd) : Prop := ∃ es clock, w.heap[b]? = some (.map es clock) ∧ es.toList.map (fun e => (e.key, e.val)) = us.map (fun u => (dv u.dr u.dn, uv u))

theorem MapIs.lt {w : World} {b : Nat} {us : List M1.Upd} (h : MapIs w b us) : b < w.heap.size := by
  obtain ⟨es, clock, hb, _⟩ := h
  exact (Array.getElem?_eq_some_iff.1 hb).1
theorem MapIs.block {w w' : World} {b : Nat} {us : List M1.Upd} (h : MapIs w b us) (e : w'.heap[b]? = w.heap[b]?) : MapIs w' b us := by
  obtain ⟨es, clock, hb, h2⟩ := h
  exact ⟨es, clock, e.trans hb, h2⟩
theorem MapIs.below {w w' : World} {b B : Nat} {us : List M1.Upd} (h : MapIs w b us) (hB : Below B w w') (hb : b < B) : MapIs w' b us := h.block (hB.block b hb)
theorem MapIs.alloc {w : World} {b : Nat} {us : List M1.Upd} (h : MapIs w b us) (o : Obj) : MapIs (w.alloc o) b us :=
  h.below ((Below.refl w.heap.size w).alloc (Nat.le_refl _) o) h.lt
theorem MapIs.made (w : World) : MapIs (w.alloc (.map #[] 0)) w.heap.size [] := ⟨#[], 0, (MapKept.heap_alloc w _).1, rfl⟩

theorem find_any (r n : Int) (w : World) : ∀ (es : List MapEntry) (us : List M1.Upd) (i : Nat), es.map (fun e => (e.key, e.val)) = us.map (fun u => (dv u.dr u.dn, uv u)) →
    ∃ o, (Instr.findAsking 59 (dv r n) es i).run Try.prog w = .ok o w ∧ o.map (·.2) = (M1.fd us r n).map uv
  | [], [], i, _ => ⟨none, rfl, rfl⟩
  | [], _ :: _, _, h => by cases h
  | _ :: _, [], _, h => by cases h
  | e :: es, u :: us, i, h => by
    rw [List.map_cons, List.map_cons, List.cons.injEq, Prod.mk.injEq] at h
    obtain ⟨⟨h1, h2⟩, h3⟩ := h
    have hq : (Op.equal 59 (dv r n) e.key).run Try.prog w = .ok (decide (r = u.dr ∧ n = u.dn)) w := by
      rw [h1]; exact eqDotV r n u.dr u.dn w
    unfold Instr.findAsking M1.fd
    by_cases c : u.dr = r ∧ u.dn = n
    · refine ⟨some (i, e.val), ?_, ?_⟩
      · simp [hq, Result.andThen, c.1, c.2]
      · rw [if_pos c, Option.map_some, Option.map_some, h2]
    · obtain ⟨o, ho1, ho2⟩ := find_any r n w es us (i + 1) h3
      refine ⟨o, ?_, ?_⟩
      · have c' : ¬ (r = u.dr ∧ n = u.dn) := fun x => c ⟨x.1.symm, x.2.symm⟩
        simp only [Sem.run_bind, hq, Result.andThen, decide_eq_false c', Bool.false_eq_true, if_false]
        exact ho1
      · rw [if_neg c]; exact ho2

theorem findKey_any (r n : Int) (w : World) (es : List MapEntry) (us : List M1.Upd) (h : es.map (fun e => (e.key, e.val)) = us.map (fun u => (dv u.dr u.dn, uv u))) :
    ∃ o, (Instr.findKey 59 (dv r n) es).run Try.prog w = .ok o w ∧ o.map (·.2) = (M1.fd us r n).map uv := by
  cases es with
  | nil =>
    cases us with
    | nil =>
      refine ⟨none, ?_, rfl⟩
      unfold Instr.findKey
      simp [run_underlying Try.underlying59, Result.andThen, Instr.findNow]
    | cons => cases h
  | cons e es =>
    obtain ⟨o, ho1, ho2⟩ := find_any r n w (e :: es) us 0 h
    refine ⟨o, ?_, ho2⟩
    rw [← ho1]
    unfold Instr.findKey
    simp [run_underlying Try.underlying59, Result.andThen, Instr.findNow, Instr.sameNow]

theorem zeroUpd (w : World) : (zeroValue 63).run Try.prog w = .ok (uv M1.zeroU) w := by kernel_rfl

end Go.Proofs.Ytdpeopmbboogaaa
