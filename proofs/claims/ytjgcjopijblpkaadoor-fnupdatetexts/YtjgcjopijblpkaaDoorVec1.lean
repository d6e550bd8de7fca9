/-
  Vectors in memory, and the contracts of the small functions on dots.
-/
import Derived.Test.YtjgcjopijblpkaaDoorWalk1
import Derived.Test.YtjgcjopijblpkaaDoorMath2
import Derived.Deep.RegionHeld3
import Derived.Deep.DrawnRows
import Derived.Deep.DeepCutAuto
import Derived.Deep.LoopGhost
namespace Go.Proofs.YtjgcjopijblpkaaDoor
open Go.ChangeShapes Go.WideShapes Go.ChangeAt Go.RowKit

/-- A slice of dots: its elements are ds, two cells each. -/
structure IsVec (w : World) (av : Option Addr) (len cap : Nat) (ds : List (Int × Int)) : Prop where
  hlen : ds.length = len
  hcap : len ≤ cap
  hmost : cap ≤ maxLen
  hlies : len = 0 ∨ ∃ b off, av = some ⟨b, off, none⟩ ∧ b < w.heap.size ∧ ∀ i, i < len → w.cell? ⟨b, off + i * 2, none⟩ = some (.int .i64 (M1.rg ds i)) ∧ w.cell? ⟨b, off + i * 2 + 1, none⟩ = some (.int .i64 (M1.nm ds i))

theorem IsVec.below {w w' : World} {av : Option Addr} {len cap : Nat} {ds : List (Int × Int)} (h : IsVec w av len cap ds) (hb : Below w.heap.size w w') : IsVec w' av len cap ds :=
  ⟨h.hlen, h.hcap, h.hmost, h.hlies.imp id fun ⟨b, off, e, hlt, hc⟩ => ⟨b, off, e, Nat.lt_of_lt_of_le hlt hb.size, fun i hi => ⟨(hb.cell (p := ⟨b, off + i * 2, none⟩) hlt).trans (hc i hi).1, (hb.cell (p := ⟨b, off + i * 2 + 1, none⟩) hlt).trans (hc i hi).2⟩⟩⟩

theorem l1Dot_any (a b : Int) (w : World) :
    Calls Tryd.prog 63 #[.agg #[.int .i64 a, .int .i64 b]] w fun e w' => e = .returned (.bool (M1.dotOk a b)) ∧ Below w.heap.size w w' := by
  unfold M1.dotOk
  go_enter Tryd.func63, Tryd.ntmps63
  go_wp2_with ((go_at_call 65; refine (l1In_any _ _ _ _).mono ?_; rintro e w' ⟨rfl, rfl⟩))
  all_goals (go_ret)
  all_goals (exact ⟨by simp [*], (Below.refl _ _).alloc (Nat.le_refl _) _⟩)

theorem dotOk_any (a b : Int) (w : World) :
    Calls Tryd.prog 35 #[.agg #[.int .i64 a, .int .i64 b]] w fun e w' => e = .returned (.bool (M1.dotOk a b)) ∧ Below w.heap.size w w' := by
  unfold M1.dotOk
  go_enter Tryd.func35, Tryd.ntmps35
  go_wp2_with ((go_at_call 37; refine (inRange_any _ _ _ _).mono ?_; rintro e w' ⟨rfl, rfl⟩))
  all_goals (go_ret)
  all_goals (exact ⟨by simp [*], (Below.refl _ _).alloc (Nat.le_refl _) _⟩)

theorem toDot_any (a b : Int) (w : World) :
    Calls Tryd.prog 42 #[.agg #[.int .i64 a, .int .i64 b]] w fun e w' => e = .returned (.agg #[.int .i64 a, .int .i64 b]) ∧ Below w.heap.size w w' := by
  go_enter Tryd.func42, Tryd.ntmps42
  go_wp2
  refine bodyPost_ret (v := .agg #[.int .i64 a, .int .i64 b]) (by simp [results, Tryd.results42, go_sem]) rfl ⟨rfl, ?_⟩
  repeat (first | (with_reducible exact Below.refl _ _) | ((with_reducible refine Below.setCell ?_ ?_ _); rotate_left; (focus (first | omega | (simp; done) | (simp; omega)))) | ((with_reducible refine Below.alloc ?_ ?_ _); rotate_left; (focus (first | omega | (simp; done) | (simp; omega)))) | (with_reducible refine Below.drew ?_))

theorem eqDot_any (a b x y : Int) (w : World) :
    Calls Tryd.prog 45 #[.agg #[.int .i64 a, .int .i64 b], .agg #[.int .i64 x, .int .i64 y]] w fun e w' => e = .returned (.bool (M1.eqd a b x y)) ∧ Below w.heap.size w w' := by
  unfold M1.eqd
  go_enter Tryd.func45, Tryd.ntmps45
  go_wp2
  all_goals (go_ret)
  all_goals (refine ⟨by simp_all, ?_⟩)
  all_goals (repeat (first | (with_reducible exact Below.refl _ _) | ((with_reducible refine Below.setCell ?_ ?_ _); rotate_left; (focus (first | omega | (simp; done) | (simp; omega)))) | ((with_reducible refine Below.alloc ?_ ?_ _); rotate_left; (focus (first | omega | (simp; done) | (simp; omega)))) | (with_reducible refine Below.drew ?_)))

end Go.Proofs.YtjgcjopijblpkaaDoor
