/-
  Texts of one proof, joined: Kept, Walk1.
-/
import Derived.WalkKit
import Derived.OrdersHeld
import Derived.Below
import Derived.Test.YtgcinolbkllkkaaGreatRows
import Derived.Test.YtgcinolbkllkkaaGreatZXWorldOk00
import Derived.ProofKit
import Derived.OpenShut
namespace Go.Proofs.YtgcinolbkllkkaaGreat
open Go.RowKit
theorem zZ {A : Type} : (∀ (l : List A) (i : Nat) (h : i < l.toArray.size), l.toArray[i] = l[i]'(by simpa using h)) ∧ (∀ (a : A) (l : List A) (h : 0 < (a :: l).length), (a :: l)[0] = a) ∧ (∀ (a : A) (l : List A) (i : Nat) (h : i + 1 < (a :: l).length), (a :: l)[i + 1] = l[i]'(by simpa using h)) ∧ (∀ (l : List A) (i : Nat) (a : A), l.toArray.setIfInBounds i a = (l.set i a).toArray) ∧ (∀ (a b : A) (l : List A), (a :: l).set 0 b = b :: l) ∧ (∀ (a b : A) (l : List A) (n : Nat), (a :: l).set (n + 1) b = a :: l.set n b) :=
 ⟨fun _ _ h => List.getElem_toArray h, fun _ _ h => List.getElem_cons_zero _ _ h, fun _ _ _ h => List.getElem_cons_succ _ _ _ h, fun _ _ _ => List.setIfInBounds_toArray _ _ _, fun _ _ _ => List.set_cons_zero, fun _ _ _ _ => List.set_cons_succ⟩

theorem tZ {P : Program} {md : Region.Mode} {ops : Array Oper} {Q : Exit → Act → World → Prop} {S : World → Prop} {i : Nat} {oi : Oper} {v : Value} {fuel : Nat} {listed : Array Bool} {a : Act} {w : World} (hi : ops[i]? = some oi) (hy : YieldsIf P ops S oi v a) (hS : S w) (h : wpAnyH P md ops Q S fuel (listed.setIfInBounds i true) (a.put oi.dst v) w)
  (hs : Region.noSelect ops = true := by kernel_rfl) (hf : Region.free md ops listed i = true := by kernel_rfl) (hr : (Region.ready md ops listed).contains i = true := by kernel_rfl) (hQ : ∀ c a w, Q (.panic c) (a.put oi.dst v) w → Q (.panic c) a w := by exact fun _ _ _ h => h) : wpAnyH P md ops Q S (fuel + 1) listed a w :=
 wpAnyH_take hi hs hf hr hQ hy hS h

abbrev Kp (W0 w' : World) : Prop := Below W0.heap.size W0 w' ∧ (∀ b o, b < W0.heap.size → w'.cell? ⟨b, o, none⟩ = W0.cell? ⟨b, o, none⟩)

theorem kp_of {W0 w' : World} (h : Below W0.heap.size W0 w') : Kp W0 w' := ⟨h, fun b o hb => h.cell (p := ⟨b, o, none⟩) hb⟩

theorem kp_zero (W0 : World) : Kp W0 W0.drew := kp_of (Below.refl _ _).drew

theorem kp_drew {W0 w1 : World} (h : Kp W0 w1) : Kp W0 w1.drew := kp_of h.1.drew

theorem kp_step {W0 w1 w2 : World} (h : Kp W0 w1) (hb : Below w1.heap.size w1 w2) : Kp W0 w2 := kp_of (h.1.trans (hb.mono h.1.size))

theorem bcell {W w1 : World} (hb : Below W.heap.size W w1) : (∀ b o, b < W.heap.size → w1.cell? ⟨b, o, none⟩ = W.cell? ⟨b, o, none⟩) ∧ (∀ b o, b < W.heap.size → w1.frozen? ⟨b, o, none⟩ = W.frozen? ⟨b, o, none⟩) :=
 ⟨fun b o h => hb.cell (p := ⟨b, o, none⟩) h, fun b o h => hb.frozen (p := ⟨b, o, none⟩) h⟩

theorem kp_alloc {W0 w1 : World} (h : Kp W0 w1) (o : Obj) : Kp W0 (w1.alloc o) := kp_of (h.1.alloc h.1.size o)

end Go.Proofs.YtgcinolbkllkkaaGreat

namespace Go.Proofs.YtgcinolbkllkkaaGreat
open Go.ChangeShapes Go.WideShapes Go.ChangeAt Go.RowKit
theorem l1In_any (n lo hi : Int) (w : World) :
  Calls Tryz.prog 27 #[.int .i64 n, .int .i64 lo, .int .i64 hi] w fun e w' => e = .returned (.bool (M1.inB n lo hi)) ∧ w' = w := by
 unfold M1.inB
 by_cases h1 : lo ≤ n <;> by_cases h2 : n ≤ hi
 all_goals
  go_enter Tryz.func27, Tryz.ntmps27
  go_wp2
  go_ret
  exact ⟨by simp [*], rfl⟩

theorem inRange_any (n lo hi : Int) (w : World) :
  Calls Tryz.prog 23 #[.int .i64 n, .int .i64 lo, .int .i64 hi] w fun e w' => e = .returned (.bool (M1.inB n lo hi)) ∧ w' = w := by
 unfold M1.inB
 by_cases h1 : lo ≤ n <;> by_cases h2 : n ≤ hi
 all_goals
  go_enter Tryz.func23, Tryz.ntmps23
  go_wp2
  go_ret
  exact ⟨by simp [*], rfl⟩

theorem timeOk_any (n : Int) (w : World) :
  Calls Tryz.prog 22 #[.int .i64 n] w fun e w' => e = .returned (.bool (M1.inB n 0 1000000000)) ∧ w' = w := by
 go_enter Tryz.func22, Tryz.ntmps22
 go_wp2_with ((go_at_call 23; refine (inRange_any _ _ _ _).mono ?_; rintro e w' ⟨rfl, rfl⟩))
 go_ret
 exact ⟨rfl, rfl⟩

theorem stampOk_spec (a b c : Int) (w : World) :
  Calls Tryz.prog 58 #[.agg #[.int .i64 a, .int .i64 b, .int .i64 c]] w fun e w' => e = .returned (.bool (M1.stOk a b c)) ∧ Below w.heap.size w w' := by
 unfold M1.stOk
 go_enter Tryz.func58, Tryz.ntmps58
 go_wp2_with ((go_at_call 27; refine (l1In_any _ _ _ _).mono ?_; rintro e w' ⟨rfl, rfl⟩))
 all_goals (go_ret)
 all_goals (exact ⟨by simp [*], (Below.refl _ _).alloc (Nat.le_refl _) _⟩)

theorem stampOk_impl (a b c : Int) (w : World) :
  Calls Tryz.prog 86 #[.agg #[.int .i64 a, .int .i64 b, .int .i64 c]] w fun e w' => e = .returned (.bool (M1.stOk a b c)) ∧ Below w.heap.size w w' := by
 unfold M1.stOk
 go_enter Tryz.func86, Tryz.ntmps86
 go_wp2_with (first | (go_at_call 23; refine (inRange_any _ _ _ _).mono ?_; rintro e w' ⟨rfl, rfl⟩) | (go_at_call 22; refine (timeOk_any _ _).mono ?_; rintro e w' ⟨rfl, rfl⟩))
 all_goals (go_ret)
 all_goals (exact ⟨by simp [*], (Below.refl _ _).alloc (Nat.le_refl _) _⟩)

theorem ahead_spec (a b c x y z : Int) (w : World) :
  Calls Tryz.prog 92 #[.agg #[.int .i64 a, .int .i64 b, .int .i64 c], .agg #[.int .i64 x, .int .i64 y, .int .i64 z]] w fun e w' => e = .returned (.bool (M1.aheadB a b c x y z)) ∧ Below w.heap.size w w' := by
 unfold M1.aheadB
 go_enter Tryz.func92, Tryz.ntmps92
 go_wp2
 all_goals (go_ret)
 all_goals (exact ⟨by simp_all, ((Below.refl _ _).alloc (Nat.le_refl _) _).alloc (by simp) _⟩)

theorem ahead_impl (a b c x y z : Int) (w : World) :
  Calls Tryz.prog 64 #[.agg #[.int .i64 a, .int .i64 b, .int .i64 c], .agg #[.int .i64 x, .int .i64 y, .int .i64 z]] w fun e w' => e = .returned (.bool (M1.aheadB a b c x y z)) ∧ Below w.heap.size w w' := by
 unfold M1.aheadB
 go_enter Tryz.func64, Tryz.ntmps64
 go_wp2
 all_goals (go_ret)
 all_goals (exact ⟨by simp_all, ((Below.refl _ _).alloc (Nat.le_refl _) _).alloc (by simp) _⟩)

end Go.Proofs.YtgcinolbkllkkaaGreat
