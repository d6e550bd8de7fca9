/-
  Texts of one proof, joined: Vec1, Math3, Math4.
-/
import Derived.Test.YtpflbhjgnmkajaaGreatZFound05
import Derived.Test.YtpflbhjgnmkajaaGreatZFound06
import Derived.Deep.RegionHeld3
import Derived.Deep.DrawnRows
import Derived.Deep.DeepCutAuto
import Derived.Deep.LoopGhost
namespace Go.Proofs.YtpflbhjgnmkajaaGreat
open Go.ChangeShapes Go.WideShapes Go.ChangeAt Go.RowKit

/-- A slice of dots: its elements are ds, two cells each. -/
structure IsVec (w : World) (av : Option Addr) (len cap : Nat) (ds : List (Int × Int)) : Prop where
  hlen : ds.length = len
  hcap : len ≤ cap
  hmost : cap ≤ maxLen
  hlies : len = 0 ∨ ∃ b off, av = some ⟨b, off, none⟩ ∧ b < w.heap.size ∧ ∀ i, i < len → w.cell? ⟨b, off + i * 2, none⟩ = some (.int .i64 (M1.rg ds i)) ∧ w.cell? ⟨b, off + i * 2 + 1, none⟩ = some (.int .i64 (M1.nm ds i))

theorem IsVec.below {w w' : World} {av : Option Addr} {len cap : Nat} {ds : List (Int × Int)} (h : IsVec w av len cap ds) (hb : Below w.heap.size w w') : IsVec w' av len cap ds :=
  ⟨h.hlen, h.hcap, h.hmost, h.hlies.imp id fun ⟨b, off, e, hlt, hc⟩ => ⟨b, off, e, Nat.lt_of_lt_of_le hlt hb.size, fun i hi => ⟨(hb.cell (p := ⟨b, off + i * 2, none⟩) hlt).trans (hc i hi).1, (hb.cell (p := ⟨b, off + i * 2 + 1, none⟩) hlt).trans (hc i hi).2⟩⟩⟩

theorem l1Dot_any (a b : Int) (w : World) :
    Calls Tryz.prog 50 #[.agg #[.int .i64 a, .int .i64 b]] w fun e w' => e = .returned (.bool (M1.dotOk a b)) ∧ Below w.heap.size w w' := by
  unfold M1.dotOk
  go_enter Tryz.func50, Tryz.ntmps50
  go_wp2_with ((go_at_call 23; refine (l1In_any _ _ _ _).mono ?_; rintro e w' ⟨rfl, rfl⟩))
  all_goals (go_ret)
  all_goals (exact ⟨by simp [*], (Below.refl _ _).alloc (Nat.le_refl _) _⟩)

theorem dotOk_any (a b : Int) (w : World) :
    Calls Tryz.prog 61 #[.agg #[.int .i64 a, .int .i64 b]] w fun e w' => e = .returned (.bool (M1.dotOk a b)) ∧ Below w.heap.size w w' := by
  unfold M1.dotOk
  go_enter Tryz.func61, Tryz.ntmps61
  go_wp2_with ((go_at_call 42; refine (inRange_any _ _ _ _).mono ?_; rintro e w' ⟨rfl, rfl⟩))
  all_goals (go_ret)
  all_goals (exact ⟨by simp [*], (Below.refl _ _).alloc (Nat.le_refl _) _⟩)

end Go.Proofs.YtpflbhjgnmkajaaGreat

namespace M1

/-- A small letter. -/
def letB (c : UInt8) : Bool := decide (97 ≤ (c.toNat : Int)) && decide ((c.toNat : Int) ≤ 122)
def allB (s : ByteArray) : Bool := s.data.toList.all letB
def nameB (s : ByteArray) : Bool := (decide (1 ≤ s.size) && decide (s.size ≤ 12)) && allB s

theorem allB_yes {s : ByteArray} (h : ∀ j (hj : j < s.size), letB s[j] = true) : allB s = true := by
  unfold allB
  rw [List.all_eq_true]
  intro x hx
  obtain ⟨j, hj, rfl⟩ := List.mem_iff_getElem.1 hx
  have h2 : letB s.data[j] = true := h j (by simpa using hj)
  simpa using h2
theorem allB_no {s : ByteArray} {j : Nat} (hj : j < s.size) (h : letB s[j] = false) : allB s = false := by
  unfold allB
  rw [List.all_eq_false]
  refine ⟨s[j], ?_, by simp [h]⟩
  show s.data[j] ∈ _
  simp
def spanB (id parent : Int) (s : ByteArray) (start fin : Int) : Bool :=
  inB id 1 1000 && inB parent 0 1000 && (parent != id) && nameB s && inB start 0 1000000000 && inB fin start 1000000000
theorem spanB_eq (id parent : Int) (s : ByteArray) (start fin : Int) : spanB id parent s start fin =
    (inB id 1 1000 && inB parent 0 1000 && (parent != id) && nameB s && inB start 0 1000000000 && inB fin 0 1000000000 && decide (start ≤ fin)) := by
  unfold spanB
  generalize nameB s = b
  generalize (parent != id) = c
  rw [Bool.eq_iff_iff]
  cases b <;> cases c
  all_goals first | (simp [inB]; done) | (simp [inB]; omega)
end M1

namespace M1

/-- A span that is zero. -/
def zeroB (id pa : Int) (s : ByteArray) (st en : Int) : Bool := decide (id = 0) && decide (pa = 0) && decide (s.toList = []) && decide (st = 0) && decide (en = 0)
def headB (dr dn sw sc sr tr : Int) : Bool := dotOk dr dn && stOk sw sc sr && decide (sr = dr) && inB tr 1 1000
def kindB (k id pa : Int) (s : ByteArray) (st en lv : Int) : Bool :=
  if k = 1 then spanB id pa s st en && (lv == 0)
  else if k = 2 then zeroB id pa s st en && (lv == 0)
  else if k = 3 then zeroB id pa s st en && inB lv 1 1000000
  else false
def updB (dr dn sw sc sr k tr id pa : Int) (s : ByteArray) (st en lv : Int) : Bool := headB dr dn sw sc sr tr && kindB k id pa s st en lv
end M1
