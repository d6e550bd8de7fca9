/-
  Texts of one proof, joined: MapU.
-/
import Derived.Test.YtgcinolbkllkkaaGreatZXWorldOk00
import Derived.Test.YtgcinolbkllkkaaGreatZXWorldOk09
import Derived.Carry
import Derived.Maps.OwnOps
namespace M1
def ueq (a b : Upd) : Bool := decide (a.dr = b.dr ∧ a.dn = b.dn ∧ a.sw = b.sw ∧ a.sc = b.sc ∧ a.sr = b.sr ∧ a.k = b.k ∧ a.tr = b.tr ∧ a.id = b.id ∧ a.pa = b.pa ∧ a.s.toList = b.s.toList ∧ a.st = b.st ∧ a.en = b.en ∧ a.lv = b.lv)

def fd : List Upd → Int → Int → Option Upd
 | [], _, _ => none
 | u :: us, r, n => if u.dr = r ∧ u.dn = n then some u else fd us r n

def apart (us : List Upd) : Prop := ∀ i j, i < j → j < us.length → ¬ ((up us i).dr = (up us j).dr ∧ (up us i).dn = (up us j).dn)

def agree1 (xs : List Upd) (u : Upd) : Prop := ∀ i, i < xs.length → (up xs i).dr = u.dr ∧ (up xs i).dn = u.dn → ueq (up xs i) u = true

instance (xs : List Upd) (u : Upd) : Decidable (agree1 xs u) := by unfold agree1; exact inferInstance

def agreeTo (xs ys : List Upd) (m : Nat) : Prop := ∀ k, k < m → agree1 xs (up ys k)

instance (xs ys : List Upd) (m : Nat) : Decidable (agreeTo xs ys m) := by unfold agreeTo; exact inferInstance

def agreeB (xs ys : List Upd) : Bool := setOk xs && (setOk ys && decide (agreeTo xs ys ys.length))

theorem agreeTo_succ {xs ys : List Upd} {m : Nat} (h : agreeTo xs ys m) (h1 : agree1 xs (up ys m)) : agreeTo xs ys (m + 1) := fun k hk => by
 by_cases e : k = m
 ·rw [e]; exact h1
 ·exact h k (by omega)

theorem fd_none {r n : Int} : ∀ {us : List Upd}, fd us r n = none → ∀ i, i < us.length → ¬ ((up us i).dr = r ∧ (up us i).dn = n)
 | [], _, i, hi => absurd hi (by simp)
 | u :: us, h, i, hi => by
  unfold fd at h
  by_cases e : u.dr = r ∧ u.dn = n
  ·rw [if_pos e] at h; cases h
  ·rw [if_neg e] at h
   cases i with
   | zero => exact e
   | succ i => exact fd_none h i (by simpa using hi)

theorem fd_is_none {r n : Int} : ∀ {us : List Upd}, (∀ i, i < us.length → ¬ ((up us i).dr = r ∧ (up us i).dn = n)) → fd us r n = none
 | [], _ => rfl
 | u :: us, h => by
  unfold fd
  have h0 : ¬ (u.dr = r ∧ u.dn = n) := h 0 (by simp)
  rw [if_neg h0]
  exact fd_is_none fun i hi => h (i + 1) (by simpa using hi)

theorem fd_some {r n : Int} {x : Upd} : ∀ {us : List Upd}, fd us r n = some x → ∃ i, i < us.length ∧ up us i = x ∧ x.dr = r ∧ x.dn = n
 | [], h => by cases h
 | u :: us, h => by
  unfold fd at h
  by_cases e : u.dr = r ∧ u.dn = n
  ·rw [if_pos e] at h; cases h; exact ⟨0, by simp, rfl, e.1, e.2⟩
  ·rw [if_neg e] at h
   obtain ⟨i, hi, h2⟩ := fd_some h
   exact ⟨i + 1, by simpa using hi, h2⟩

theorem agree_none {xs : List Upd} {u : Upd} (h : fd xs u.dr u.dn = none) : agree1 xs u := fun i hi e => absurd e (fd_none h i hi)

theorem agree_some {xs : List Upd} {u x : Upd} (ha : apart xs) (h : fd xs u.dr u.dn = some x) (he : ueq x u = true) : agree1 xs u := fun i hi e => by
 obtain ⟨j, hj, rfl, e1, e2⟩ := fd_some h
 by_cases c1 : i < j
 ·exact absurd ⟨e.1.trans e1.symm, e.2.trans e2.symm⟩ (ha i j c1 hj)
 ·by_cases c2 : j < i
  ·exact absurd ⟨e1.trans e.1.symm, e2.trans e.2.symm⟩ (ha j i c2 hi)
  ·have : i = j := by omega
   rw [this]; exact he

theorem agree_not {xs : List Upd} {u x : Upd} (h : fd xs u.dr u.dn = some x) (he : ueq x u = false) : ¬ agree1 xs u := fun hh => by
 obtain ⟨j, hj, rfl, e1, e2⟩ := fd_some h
 rw [hh j hj ⟨e1, e2⟩] at he; cases he

theorem fol_ahead {a b : Upd} (h : fol a b = true) : a.dr < b.dr ∨ (a.dr = b.dr ∧ a.dn < b.dn) := by
 unfold fol at h
 by_cases e : b.dr = a.dr
 ·rw [if_pos e] at h
  simp at h; omega
 ·rw [if_neg e] at h
  simp at h; omega

theorem ok_ahead {us : List Upd} (h : ∀ j, j < us.length → okAt us j = true) {i : Nat} : ∀ j, i < j → j < us.length → (up us i).dr < (up us j).dr ∨ ((up us i).dr = (up us j).dr ∧ (up us i).dn < (up us j).dn)
 | 0, hij, _ => absurd hij (by omega)
 | j + 1, hij, hj => by
  have h2 : (up us j).dr < (up us (j + 1)).dr ∨ ((up us j).dr = (up us (j + 1)).dr ∧ (up us j).dn < (up us (j + 1)).dn) := by
   have h3 := h (j + 1) hj
   unfold okAt at h3
   simp at h3
   exact fol_ahead h3.2
  by_cases e : i = j
  ·rw [e]; exact h2
  ·have h1 := ok_ahead h (i := i) j (by omega) (by omega)
   omega

theorem ok_apart {us : List Upd} (h : ∀ j, j < us.length → okAt us j = true) : apart us := fun i j hij hj e => by
 have := ok_ahead h j hij hj
 omega

theorem fd_take {us : List Upd} (h : apart us) {k : Nat} (hk : k < us.length) : fd (us.take k) (up us k).dr (up us k).dn = none := by
 refine fd_is_none fun i hi => ?_
 have hl : (us.take k).length = k := by simp; omega
 rw [hl] at hi
 have e : up (us.take k) i = up us i := by
  unfold up
  simp [List.getD, hi]
 rw [e]
 exact h i k hi hk

theorem take_up {us : List Upd} {k : Nat} (hk : k < us.length) : us.take (k + 1) = us.take k ++ [up us k] := by
 rw [List.take_add_one]
 unfold up
 simp [List.getD, List.getElem?_eq_getElem hk]

end M1
namespace Go.Proofs.YtgcinolbkllkkaaGreat
open Go.ChangeShapes Go.WideShapes Go.ChangeAt Go.RowKit
set_option linter.unusedSimpArgs false
def uv (u : M1.Upd) : Value := .agg #[.int .i64 u.dr, .int .i64 u.dn, .int .i64 u.sw, .int .i64 u.sc, .int .i64 u.sr, .int .i64 u.k, .int .i64 u.tr, .int .i64 u.id, .int .i64 u.pa, .string u.s, .int .i64 u.st, .int .i64 u.en, .int .i64 u.lv]

def dv (r n : Int) : Value := .agg #[.int .i64 r, .int .i64 n]

theorem ite_chain (p : Prop) [Decidable p] (q : Bool) (w : World) : (if p then Result.ok q w else Result.ok false w) = Result.ok (decide p && q) w := by
 by_cases h : p <;> simp [h]

theorem eqDotV (a b c d : Int) (w : World) : (Op.equalIn 10000 68 (.agg #[.int .i64 a, .int .i64 b]) (.agg #[.int .i64 c, .int .i64 d])).run Tryz.prog w = .ok (decide (a = c ∧ b = d)) w := by
 have h := run_equalIn_agg (P := Tryz.prog) w 9999 68 #[.int .i64 a, .int .i64 b] #[.int .i64 c, .int .i64 d] (by kernel_rfl) (by kernel_rfl)
 rw [h]
 simp [go_sem]
 by_cases h1 : a = c <;> by_cases h2 : b = d <;> simp [h1, h2]

theorem checkDot (e : Bool) (a b : Int) (w : World) : (Instr.checkKey e 10000 68 (.agg #[.int .i64 a, .int .i64 b])).run Tryz.prog w = .ok () w := by
 cases e <;> kernel_rfl

set_option maxHeartbeats 2000000 in
set_option maxRecDepth 100000 in
theorem eqU (a b : M1.Upd) (w : World) : (Op.equalIn 10000 72 (.agg #[.int .i64 a.dr, .int .i64 a.dn, .int .i64 a.sw, .int .i64 a.sc, .int .i64 a.sr, .int .i64 a.k, .int .i64 a.tr, .int .i64 a.id, .int .i64 a.pa, .string a.s, .int .i64 a.st, .int .i64 a.en, .int .i64 a.lv]) (.agg #[.int .i64 b.dr, .int .i64 b.dn, .int .i64 b.sw, .int .i64 b.sc, .int .i64 b.sr, .int .i64 b.k, .int .i64 b.tr, .int .i64 b.id, .int .i64 b.pa, .string b.s, .int .i64 b.st, .int .i64 b.en, .int .i64 b.lv])).run Tryz.prog w = .ok (M1.ueq a b) w := by
 have h := run_equalIn_agg (P := Tryz.prog) w 9999 72 #[.int .i64 a.dr, .int .i64 a.dn, .int .i64 a.sw, .int .i64 a.sc, .int .i64 a.sr, .int .i64 a.k, .int .i64 a.tr, .int .i64 a.id, .int .i64 a.pa, .string a.s, .int .i64 a.st, .int .i64 a.en, .int .i64 a.lv] #[.int .i64 b.dr, .int .i64 b.dn, .int .i64 b.sw, .int .i64 b.sc, .int .i64 b.sr, .int .i64 b.k, .int .i64 b.tr, .int .i64 b.id, .int .i64 b.pa, .string b.s, .int .i64 b.st, .int .i64 b.en, .int .i64 b.lv] (by kernel_rfl) (by kernel_rfl)
 rw [h]
 simp [go_sem]
 simp only [ite_chain]
 unfold M1.ueq
 congr 1
 simp

def MapIs (w : World) (b : Nat) (us : List M1.Upd) : Prop := ∃ es clock, w.heap[b]? = some (.map es clock) ∧ es.toList.map (fun e => (e.key, e.val)) = us.map (fun u => (dv u.dr u.dn, uv u))

theorem MapIs.lt {w : World} {b : Nat} {us : List M1.Upd} (h : MapIs w b us) : b < w.heap.size := by
 obtain ⟨es, clock, hb, _⟩ := h
 exact (Array.getElem?_eq_some_iff.1 hb).1

theorem MapIs.block {w w' : World} {b : Nat} {us : List M1.Upd} (h : MapIs w b us) (e : w'.heap[b]? = w.heap[b]?) : MapIs w' b us := by
 obtain ⟨es, clock, hb, h2⟩ := h
 exact ⟨es, clock, e.trans hb, h2⟩

theorem MapIs.below {w w' : World} {b B : Nat} {us : List M1.Upd} (h : MapIs w b us) (hB : Below B w w') (hb : b < B) : MapIs w' b us := h.block (hB.block b hb)

theorem MapIs.alloc {w : World} {b : Nat} {us : List M1.Upd} (h : MapIs w b us) (o : Obj) : MapIs (w.alloc o) b us :=
 h.below ((Below.refl w.heap.size w).alloc (Nat.le_refl _) o) h.lt

theorem MapIs.made (w : World) : MapIs (w.alloc (.map #[] 0)) w.heap.size [] := ⟨#[], 0, (MapKept.heap_alloc w _).1, rfl⟩

theorem find_any (r n : Int) (w : World) : ∀ (es : List MapEntry) (us : List M1.Upd) (i : Nat), es.map (fun e => (e.key, e.val)) = us.map (fun u => (dv u.dr u.dn, uv u)) →
  ∃ o, (Instr.findAsking 68 (dv r n) es i).run Tryz.prog w = .ok o w ∧ o.map (·.2) = (M1.fd us r n).map uv
 | [], [], i, _ => ⟨none, rfl, rfl⟩
 | [], _ :: _, _, h => by cases h
 | _ :: _, [], _, h => by cases h
 | e :: es, u :: us, i, h => by
  rw [List.map_cons, List.map_cons, List.cons.injEq, Prod.mk.injEq] at h
  obtain ⟨⟨h1, h2⟩, h3⟩ := h
  have hq : (Op.equal 68 (dv r n) e.key).run Tryz.prog w = .ok (decide (r = u.dr ∧ n = u.dn)) w := by
   rw [h1]; exact eqDotV r n u.dr u.dn w
  unfold Instr.findAsking M1.fd
  by_cases c : u.dr = r ∧ u.dn = n
  ·refine ⟨some (i, e.val), ?_, ?_⟩
   ·simp [hq, Result.andThen, c.1, c.2]
   ·rw [if_pos c, Option.map_some, Option.map_some, h2]
  ·obtain ⟨o, ho1, ho2⟩ := find_any r n w es us (i + 1) h3
   refine ⟨o, ?_, ?_⟩
   ·have c' : ¬ (r = u.dr ∧ n = u.dn) := fun x => c ⟨x.1.symm, x.2.symm⟩
    simp only [Sem.run_bind, hq, Result.andThen, decide_eq_false c', Bool.false_eq_true, if_false]
    exact ho1
   ·rw [if_neg c]; exact ho2

theorem findKey_any (r n : Int) (w : World) (es : List MapEntry) (us : List M1.Upd) (h : es.map (fun e => (e.key, e.val)) = us.map (fun u => (dv u.dr u.dn, uv u))) :
  ∃ o, (Instr.findKey 68 (dv r n) es).run Tryz.prog w = .ok o w ∧ o.map (·.2) = (M1.fd us r n).map uv := by
 cases es with
 | nil =>
  cases us with
  | nil =>
   refine ⟨none, ?_, rfl⟩
   unfold Instr.findKey
   simp [run_underlying Tryz.underlying68, Result.andThen, Instr.findNow]
  | cons => cases h
 | cons e es =>
  obtain ⟨o, ho1, ho2⟩ := find_any r n w (e :: es) us 0 h
  refine ⟨o, ?_, ho2⟩
  rw [← ho1]
  unfold Instr.findKey
  simp [run_underlying Tryz.underlying68, Result.andThen, Instr.findNow, Instr.sameNow]

theorem zeroUpd (w : World) : (zeroValue 72).run Tryz.prog w = .ok (uv M1.zeroU) w := by kernel_rfl

theorem run_lookupU {w : World} {b : Nat} {us : List M1.Upd} (h : MapIs w b us) (r n : Int) :
  (Instr.lookup 58 (.map (some b)) (dv r n) true).run Tryz.prog w = .ok (.tuple #[uv ((M1.fd us r n).getD M1.zeroU), .bool (M1.fd us r n).isSome]) w := by
 obtain ⟨es, clock, hb, h2⟩ := h
 obtain ⟨o, ho1, ho2⟩ := findKey_any r n w es.toList us h2
 have hc : ∀ e, (Instr.checkKey e 10000 68 (dv r n)).run Tryz.prog w = .ok () w := fun e => checkDot e r n w
 cases hf : M1.fd us r n with
 | none =>
  rw [hf] at ho2
  cases o with
  | some => cases ho2
  | none => simp [Instr.lookup, run_underlying Tryz.underlying58, MapKept.run_getObj_map hb, hc, ho1, zeroUpd, Result.andThen]; rfl
 | some x =>
  rw [hf] at ho2
  cases o with
  | none => cases ho2
  | some p =>
   obtain ⟨i, v⟩ := p
   have hv : v = uv x := by simpa using ho2
   subst hv
   simp [Instr.lookup, run_underlying Tryz.underlying58, MapKept.run_getObj_map hb, hc, ho1, Result.andThen]

theorem run_updateU {w : World} {b : Nat} {us : List M1.Upd} (h : MapIs w b us) (u : M1.Upd) (hf : M1.fd us u.dr u.dn = none) :
  ∃ w', (Instr.mapUpdate 58 (.map (some b)) (dv u.dr u.dn) (uv u)).run Tryz.prog w = .ok () w' ∧ MapIs w' b (us ++ [u]) ∧ w.grownBy w' (some b) := by
 obtain ⟨es, clock, hb, h2⟩ := h
 obtain ⟨o, ho1, ho2⟩ := findKey_any u.dr u.dn w es.toList us h2
 have hc : (Instr.checkKey false 10000 68 (dv u.dr u.dn)).run Tryz.prog w = .ok () w := checkDot _ _ _ w
 rw [hf] at ho2
 cases o with
 | some => cases ho2
 | none =>
  refine ⟨ChangeMaps.setBlock w b (.map (es.push ⟨dv u.dr u.dn, uv u, clock⟩) (clock + 1)), ?_, ⟨_, _, ChangeMaps.heap_setBlock_same hb _, ?_⟩, ⟨rfl, rfl, rfl, by simp [ChangeMaps.setBlock], fun i _ hi => ChangeMaps.heap_setBlock_other hb _ (fun e => hi (by rw [e]))⟩⟩
  ·simp [Instr.mapUpdate, run_underlying Tryz.underlying58, MapKept.run_getObj_map hb, hc, ho1, MapKept.run_setObj_map _ hb, Result.andThen, ChangeMaps.setBlock]
  ·simp [h2]

theorem wpList_mapU {w : World} {ops : Array Oper} {rest : List Oper} {o : Oper} {a : Act} {Q : Exit → Act → World → Prop}
  (hg : o.guard = none) (m x v : Operand) (hop : o.op = Op.mapUpdate 58 m x v) (b : Nat) (us : List M1.Upd) (u : M1.Upd)
  (hm : a.eval m = .map (some b)) (hown : MapIs w b us) (hf : M1.fd us u.dr u.dn = none) (hx : a.eval x = dv u.dr u.dn) (hv : a.eval v = uv u)
  (hK : ∀ w', MapIs w' b (us ++ [u]) → w.grownBy w' (some b) → wpList Tryz.prog ops Q rest (a.put o.dst undef) w') :
  wpList Tryz.prog ops Q (o :: rest) a w := by
 refine wpList_plain hg fun K' hK' => ?_
 obtain ⟨w', hrun, r1, r2⟩ := run_updateU hown u hf
 unfold Oper.wp
 simp [execOp, hop, hm, hx, hv, hrun, Result.andThen]
 exact hK' _ _ (hK w' r1 r2)

theorem wpList_lookU {w : World} {ops : Array Oper} {rest : List Oper} {o : Oper} {a : Act} {Q : Exit → Act → World → Prop}
  (hg : o.guard = none) (m x : Operand) (hop : o.op = Op.lookup 58 m x true) (b : Nat) (us : List M1.Upd) (r n : Int)
  (hm : a.eval m = .map (some b)) (hown : MapIs w b us) (hx : a.eval x = dv r n) (p : M1.Upd) (q : Bool) (hp : (M1.fd us r n).getD M1.zeroU = p) (hq : (M1.fd us r n).isSome = q)
  (hK : wpList Tryz.prog ops Q rest (a.put o.dst (.tuple #[uv p, .bool q])) w) :
  wpList Tryz.prog ops Q (o :: rest) a w := by
 refine wpList_plain hg fun K' hK' => ?_
 have hrun := run_lookupU hown r n
 rw [hp, hq] at hrun
 unfold Oper.wp
 simp [execOp, hop, hm, hx, hrun, Result.andThen]
 exact hK' _ _ hK

end Go.Proofs.YtgcinolbkllkkaaGreat
