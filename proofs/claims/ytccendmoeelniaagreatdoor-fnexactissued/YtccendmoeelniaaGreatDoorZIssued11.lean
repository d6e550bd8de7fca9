/-
  Texts of one proof, joined: MapU.
-/
import Derived.Test.YtccendmoeelniaaGreatDoorZIssued04
import Derived.Test.YtccendmoeelniaaGreatDoorZIssued10
import Derived.Carry
import Derived.Maps.OwnOps
namespace M1
def ueq (a b : Upd) : Bool := decide (a.dr = b.dr ∧ a.dn = b.dn ∧ a.sw = b.sw ∧ a.sc = b.sc ∧ a.sr = b.sr ∧ a.k = b.k ∧ a.tr = b.tr ∧ a.id = b.id ∧ a.pa = b.pa ∧ a.s.toList = b.s.toList ∧ a.st = b.st ∧ a.en = b.en ∧ a.lv = b.lv)

def fd : List Upd → Int → Int → Option Upd
  | [], _, _ => none
  | u :: us, r, n => if u.dr = r ∧ u.dn = n then some u else fd us r n

def apart (us : List Upd) : Prop := ∀ i j, i < j → j < us.length → ¬ ((up us i).dr = (up us j).dr ∧ (up us i).dn = (up us j).dn)

def agree1 (xs : List Upd) (u : Upd) : Prop := ∀ i, i < xs.length → (up xs i).dr = u.dr ∧ (up xs i).dn = u.dn → ueq (up xs i) u = true

instance (xs : List Upd) (u : Upd) : Decidable (agree1 xs u) := by unfold agree1; exact inferInstance

def agreeTo (xs ys : List Upd) (m : Nat) : Prop := ∀ k, k < m → agree1 xs (up ys k)

instance (xs ys : List Upd) (m : Nat) : Decidable (agreeTo xs ys m) := by unfold agreeTo; exact inferInstance

theorem fd_is_none {r n : Int} : ∀ {us : List Upd}, (∀ i, i < us.length → ¬ ((up us i).dr = r ∧ (up us i).dn = n)) → fd us r n = none
  | [], _ => rfl
  | u :: us, h => by
    unfold fd
    have h0 : ¬ (u.dr = r ∧ u.dn = n) := h 0 (by simp)
    rw [if_neg h0]
    exact fd_is_none fun i hi => h (i + 1) (by simpa using hi)

theorem fol_ahead {a b : Upd} (h : fol a b = true) : a.dr < b.dr ∨ (a.dr = b.dr ∧ a.dn < b.dn) := by
  unfold fol at h
  by_cases e : b.dr = a.dr
  · rw [if_pos e] at h
    simp at h; omega
  · rw [if_neg e] at h
    simp at h; omega

theorem ok_ahead {us : List Upd} (h : ∀ j, j < us.length → okAt us j = true) {i : Nat} : ∀ j, i < j → j < us.length → (up us i).dr < (up us j).dr ∨ ((up us i).dr = (up us j).dr ∧ (up us i).dn < (up us j).dn)
  | 0, hij, _ => absurd hij (by omega)
  | j + 1, hij, hj => by
    have h2 : (up us j).dr < (up us (j + 1)).dr ∨ ((up us j).dr = (up us (j + 1)).dr ∧ (up us j).dn < (up us (j + 1)).dn) := by
      have h3 := h (j + 1) hj
      unfold okAt at h3
      simp at h3
      exact fol_ahead h3.2
    by_cases e : i = j
    · rw [e]; exact h2
    · have h1 := ok_ahead h (i := i) j (by omega) (by omega)
      omega

theorem ok_apart {us : List Upd} (h : ∀ j, j < us.length → okAt us j = true) : apart us := fun i j hij hj e => by
  have := ok_ahead h j hij hj
  omega

theorem fd_take {us : List Upd} (h : apart us) {k : Nat} (hk : k < us.length) : fd (us.take k) (up us k).dr (up us k).dn = none := by
  refine fd_is_none fun i hi => ?_
  have hl : (us.take k).length = k := by simp; omega
  rw [hl] at hi
  have e : up (us.take k) i = up us i := by
    unfold up
    simp [List.getD, hi]
  rw [e]
  exact h i k hi hk

theorem take_up {us : List Upd} {k : Nat} (hk : k < us.length) : us.take (k + 1) = us.take k ++ [up us k] := by
  rw [List.take_add_one]
  unfold up
  simp [List.getD, List.getElem?_eq_getElem hk]

end M1
namespace Go.Proofs.YtccendmoeelniaaGreatDoor
open Go.ChangeShapes Go.WideShapes Go.ChangeAt Go.RowKit
set_option linter.unusedSimpArgs false
def uv (u : M1.Upd) : Value := .agg #[.int .i64 u.dr, .int .i64 u.dn, .int .i64 u.sw, .int .i64 u.sc, .int .i64 u.sr, .int .i64 u.k, .int .i64 u.tr, .int .i64 u.id, .int .i64 u.pa, .string u.s, .int .i64 u.st, .int .i64 u.en, .int .i64 u.lv]

def dv (r n : Int) : Value := .agg #[.int .i64 r, .int .i64 n]

theorem eqDotV (a b c d : Int) (w : World) : (Op.equalIn 10000 36 (.agg #[.int .i64 a, .int .i64 b]) (.agg #[.int .i64 c, .int .i64 d])).run Tryz.prog w = .ok (decide (a = c ∧ b = d)) w := by
  have h := run_equalIn_agg (P := Tryz.prog) w 9999 36 #[.int .i64 a, .int .i64 b] #[.int .i64 c, .int .i64 d] (by kernel_rfl) (by kernel_rfl)
  rw [h]
  simp [go_sem]
  by_cases h1 : a = c <;> by_cases h2 : b = d <;> simp [h1, h2]

theorem checkDot (e : Bool) (a b : Int) (w : World) : (Instr.checkKey e 10000 36 (.agg #[.int .i64 a, .int .i64 b])).run Tryz.prog w = .ok () w := by
  cases e <;> kernel_rfl

def MapIs (w : World) (b : Nat) (us : List M1.Upd) : Prop := ∃ es clock, w.heap[b]? = some (.map es clock) ∧ es.toList.map (fun e => (e.key, e.val)) = us.map (fun u => (dv u.dr u.dn, uv u))

theorem MapIs.lt {w : World} {b : Nat} {us : List M1.Upd} (h : MapIs w b us) : b < w.heap.size := by
  obtain ⟨es, clock, hb, _⟩ := h
  exact (Array.getElem?_eq_some_iff.1 hb).1

theorem MapIs.block {w w' : World} {b : Nat} {us : List M1.Upd} (h : MapIs w b us) (e : w'.heap[b]? = w.heap[b]?) : MapIs w' b us := by
  obtain ⟨es, clock, hb, h2⟩ := h
  exact ⟨es, clock, e.trans hb, h2⟩

theorem MapIs.below {w w' : World} {b B : Nat} {us : List M1.Upd} (h : MapIs w b us) (hB : Below B w w') (hb : b < B) : MapIs w' b us := h.block (hB.block b hb)

theorem MapIs.alloc {w : World} {b : Nat} {us : List M1.Upd} (h : MapIs w b us) (o : Obj) : MapIs (w.alloc o) b us :=
  h.below ((Below.refl w.heap.size w).alloc (Nat.le_refl _) o) h.lt

theorem MapIs.made (w : World) : MapIs (w.alloc (.map #[] 0)) w.heap.size [] := ⟨#[], 0, (MapKept.heap_alloc w _).1, rfl⟩

end Go.Proofs.YtccendmoeelniaaGreatDoor
