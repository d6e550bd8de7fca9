/-
  Texts of one proof, joined: Math6, Math7, Kept, Walk1.
-/
import Derived.Test.YtccendmoeelniaaGreatDoorZFIssued00
import Derived.WalkKit
import Derived.OrdersHeld
import Derived.Below
import Derived.Test.YtccendmoeelniaaGreatDoorRows
import Derived.ProofKit
import Derived.OpenShut
namespace M1
theorem rg_app {l : List (Int × Int)} {d : Int × Int} {i : Nat} (h : i < l.length) : rg (l ++ [d]) i = rg l i ∧ nm (l ++ [d]) i = nm l i := by
 simp [rg, nm, List.getD, List.getElem?_append_left h]

theorem rg_last (l : List (Int × Int)) (d : Int × Int) : rg (l ++ [d]) l.length = d.1 ∧ nm (l ++ [d]) l.length = d.2 := by
 simp [rg, nm, List.getD]

theorem lkTo_app {l : List (Int × Int)} {d : Int × Int} {r : Int} : ∀ k, k ≤ l.length → lkTo (l ++ [d]) k r = lkTo l k r
 | 0, _ => rfl
 | k + 1, h => by
  have := rg_app (d := d) (show k < l.length by omega)
  rw [lkTo_succ, lkTo_succ, this.1, this.2, lkTo_app k (by omega)]

theorem lk_snoc (l : List (Int × Int)) (d : Int × Int) (r : Int) : lk (l ++ [d]) r = if d.1 = r then d.2 else lk l r := by
 unfold lk
 rw [show (l ++ [d]).length = l.length + 1 from by simp, lkTo_succ, (rg_last l d).1, (rg_last l d).2, lkTo_app _ (Nat.le_refl _)]

theorem lk_dlTo (f : Int → Int) : ∀ (k : Nat) (r : Int), lk (dlTo f k) r = if 1 ≤ r ∧ r ≤ k ∧ 0 < f r then f r else 0
 | 0, r => by rw [if_neg (by omega)]; rfl
 | k + 1, r => by
  by_cases h : 0 < f (k + 1)
  ·rw [dlTo_yes h, lk_snoc, lk_dlTo f k r]
   by_cases e : ((k : Int) + 1) = r
   ·subst e; rw [if_pos rfl, if_pos ⟨by omega, by omega, h⟩]
   ·rw [if_neg e]
    by_cases q : 1 ≤ r ∧ r ≤ k ∧ 0 < f r
    ·rw [if_pos q, if_pos ⟨q.1, by omega, q.2.2⟩]
    ·rw [if_neg q, if_neg (fun q2 => q ⟨q2.1, by omega, q2.2.2⟩)]
  ·rw [dlTo_no h, lk_dlTo f k r]
   by_cases q : 1 ≤ r ∧ r ≤ k ∧ 0 < f r
   ·rw [if_pos q, if_pos ⟨q.1, by omega, q.2.2⟩]
   ·rw [if_neg q, if_neg (fun q2 => q ⟨q2.1, by
     have : r ≠ (k : Int) + 1 := fun e => h (by rw [← e]; exact q2.2.2)
     omega, q2.2.2⟩)]

theorem vecOk_snoc {l : List (Int × Int)} {d : Int × Int} (h : vecOk l = true) (hd : dotOk d.1 d.2 = true) (hr : ∀ j, j < l.length → rg l j < d.1) : vecOk (l ++ [d]) = true := by
 refine vecOk_yes fun j hj => ?_
 simp at hj
 by_cases e : j = l.length
 ·subst e
  unfold vokAt
  rw [(rg_last l d).1, (rg_last l d).2, hd]
  by_cases e0 : l.length = 0
  ·simp [e0]
  ·have h1 := hr (l.length - 1) (by omega)
   rw [(rg_app (d := d) (show l.length - 1 < l.length by omega)).1]
   simp [h1]
 ·have hj' : j < l.length := by omega
  have h1 := vecOk_all h j hj'
  unfold vokAt at h1 ⊢
  rw [(rg_app (d := d) hj').1, (rg_app (d := d) hj').2]
  by_cases e0 : j = 0
  ·subst e0; simpa using h1
  ·rw [(rg_app (d := d) (show j - 1 < l.length by omega)).1]; exact h1

theorem dlTo_rg (f : Int → Int) : ∀ (k : Nat) (j : Nat), j < (dlTo f k).length → rg (dlTo f k) j ≤ k
 | 0, j, h => by simp [dlTo] at h
 | k + 1, j, h => by
  by_cases q : 0 < f (k + 1)
  ·rw [dlTo_yes q] at h ⊢
   simp at h
   by_cases e : j = (dlTo f k).length
   ·rw [e, (rg_last _ _).1]; simp
   ·rw [(rg_app (by omega)).1]; have := dlTo_rg f k j (by omega); omega
  ·rw [dlTo_no q] at h ⊢
   have := dlTo_rg f k j h; omega

theorem dlTo_ok {f : Int → Int} (hf : ∀ r : Int, f r ≤ 1000000) : ∀ k : Nat, k ≤ 5 → vecOk (dlTo f k) = true
 | 0, _ => rfl
 | k + 1, h => by
  by_cases q : 0 < f (k + 1)
  ·rw [dlTo_yes q]
   refine vecOk_snoc (dlTo_ok hf k (by omega)) ?_ (fun j hj => by have := dlTo_rg f k j hj; show _ < (k : Int) + 1; omega)
   have := hf ((k : Int) + 1)
   simp [dotOk, inB]; omega
  ·rw [dlTo_no q]; exact dlTo_ok hf k (by omega)

end M1

namespace M1
def lastN (us : List Upd) : Nat → Int → Int
  | 0, _ => 0
  | k + 1, r => if (up us k).dr = r then (up us k).dn else lastN us k r

theorem lastN_succ (us : List Upd) (k : Nat) (r : Int) : lastN us (k + 1) r = if (up us k).dr = r then (up us k).dn else lastN us k r := rfl

theorem lastN_none {us : List Upd} {r : Int} : ∀ k, (∀ j, j < k → ¬ (up us j).dr = r) → lastN us k r = 0
  | 0, _ => rfl
  | k + 1, h => by rw [lastN_succ, if_neg (h k (by omega))]; exact lastN_none k (fun j hj => h j (by omega))

def vecU (us : List Upd) : List (Int × Int) := dlTo (lastN us us.length) 5

def vectorOf (us : List Upd) : List (Int × Int) := if setOk us = true then vecU us else []

theorem fol_le {a b : Upd} (h : fol a b = true) : a.dr ≤ b.dr := by
  unfold fol at h
  by_cases e : b.dr = a.dr
  · omega
  · rw [if_neg e] at h
    simp at h; omega

theorem ok_step {us : List Upd} {j : Nat} (h : okAt us (j + 1) = true) : (up us j).dr ≤ (up us (j + 1)).dr := by
  unfold okAt at h
  simp at h
  exact fol_le h.2

theorem ok_mono {us : List Upd} (h : ∀ j, j < us.length → okAt us j = true) {i : Nat} : ∀ j, i ≤ j → j < us.length → (up us i).dr ≤ (up us j).dr
  | 0, hij, _ => by have : i = 0 := by omega
                    rw [this]; exact Int.le_refl _
  | j + 1, hij, hj => by
    by_cases e : i = j + 1
    · rw [e]; exact Int.le_refl _
    · have h1 := ok_mono h (i := i) j (by omega) (by omega)
      have h2 := ok_step (h (j + 1) hj)
      omega

theorem ok_rg {us : List Upd} (h : ∀ j, j < us.length → okAt us j = true) {j : Nat} (hj : j < us.length) : 1 ≤ (up us j).dr ∧ (up us j).dr ≤ 5 ∧ 1 ≤ (up us j).dn ∧ (up us j).dn ≤ 1000000 := okU_dot (okAt_ok (h j hj))

end M1

namespace Go.Proofs.YtccendmoeelniaaGreatDoor
open Go.RowKit
theorem zZ {A : Type} : (∀ (l : List A) (i : Nat) (h : i < l.toArray.size), l.toArray[i] = l[i]'(by simpa using h)) ∧ (∀ (a : A) (l : List A) (h : 0 < (a :: l).length), (a :: l)[0] = a) ∧ (∀ (a : A) (l : List A) (i : Nat) (h : i + 1 < (a :: l).length), (a :: l)[i + 1] = l[i]'(by simpa using h)) ∧ (∀ (l : List A) (i : Nat) (a : A), l.toArray.setIfInBounds i a = (l.set i a).toArray) ∧ (∀ (a b : A) (l : List A), (a :: l).set 0 b = b :: l) ∧ (∀ (a b : A) (l : List A) (n : Nat), (a :: l).set (n + 1) b = a :: l.set n b) :=
 ⟨fun _ _ h => List.getElem_toArray h, fun _ _ h => List.getElem_cons_zero _ _ h, fun _ _ _ h => List.getElem_cons_succ _ _ _ h, fun _ _ _ => List.setIfInBounds_toArray _ _ _, fun _ _ _ => List.set_cons_zero, fun _ _ _ _ => List.set_cons_succ⟩

theorem tZ {P : Program} {md : Region.Mode} {ops : Array Oper} {Q : Exit → Act → World → Prop} {S : World → Prop} {i : Nat} {oi : Oper} {v : Value} {fuel : Nat} {listed : Array Bool} {a : Act} {w : World} (hi : ops[i]? = some oi) (hy : YieldsIf P ops S oi v a) (hS : S w) (h : wpAnyH P md ops Q S fuel (listed.setIfInBounds i true) (a.put oi.dst v) w)
  (hs : Region.noSelect ops = true := by kernel_rfl) (hf : Region.free md ops listed i = true := by kernel_rfl) (hr : (Region.ready md ops listed).contains i = true := by kernel_rfl) (hQ : ∀ c a w, Q (.panic c) (a.put oi.dst v) w → Q (.panic c) a w := by exact fun _ _ _ h => h) : wpAnyH P md ops Q S (fuel + 1) listed a w :=
 wpAnyH_take hi hs hf hr hQ hy hS h

abbrev Kp (W0 w' : World) : Prop := Below W0.heap.size W0 w' ∧ (∀ b o, b < W0.heap.size → w'.cell? ⟨b, o, none⟩ = W0.cell? ⟨b, o, none⟩)

theorem kp_of {W0 w' : World} (h : Below W0.heap.size W0 w') : Kp W0 w' := ⟨h, fun b o hb => h.cell (p := ⟨b, o, none⟩) hb⟩

theorem kp_zero (W0 : World) : Kp W0 W0.drew := kp_of (Below.refl _ _).drew

theorem kp_drew {W0 w1 : World} (h : Kp W0 w1) : Kp W0 w1.drew := kp_of h.1.drew

theorem kp_step {W0 w1 w2 : World} (h : Kp W0 w1) (hb : Below w1.heap.size w1 w2) : Kp W0 w2 := kp_of (h.1.trans (hb.mono h.1.size))

theorem bcell {W w1 : World} (hb : Below W.heap.size W w1) : (∀ b o, b < W.heap.size → w1.cell? ⟨b, o, none⟩ = W.cell? ⟨b, o, none⟩) ∧ (∀ b o, b < W.heap.size → w1.frozen? ⟨b, o, none⟩ = W.frozen? ⟨b, o, none⟩) :=
 ⟨fun b o h => hb.cell (p := ⟨b, o, none⟩) h, fun b o h => hb.frozen (p := ⟨b, o, none⟩) h⟩

theorem kp_alloc {W0 w1 : World} (h : Kp W0 w1) (o : Obj) : Kp W0 (w1.alloc o) := kp_of (h.1.alloc h.1.size o)

theorem kp_realloc {W0 w1 : World} {o : Obj} (h : Kp W0 (w1.alloc o)) (hs : W0.heap.size ≤ w1.heap.size) (o' : Obj) : Kp W0 (w1.alloc o') :=
 kp_of ⟨h.1.os, h.1.tape, h.1.output, by simp; omega, fun k hk => by
  have := h.1.block k hk
  rw [Below.heap_alloc w1 o k (by omega)] at this
  rw [Below.heap_alloc w1 o' k (by omega)]; exact this⟩

theorem kp_set {W0 w1 : World} (h : Kp W0 w1) (p : Addr) (v : Value) (hp : W0.heap.size ≤ p.block) : Kp W0 (w1.setCell p v) := kp_of (h.1.setCell hp v)

end Go.Proofs.YtccendmoeelniaaGreatDoor

namespace Go.Proofs.YtccendmoeelniaaGreatDoor
open Go.ChangeShapes Go.WideShapes Go.ChangeAt Go.RowKit
theorem l1In_any (n lo hi : Int) (w : World) :
  Calls Tryz.prog 65 #[.int .i64 n, .int .i64 lo, .int .i64 hi] w fun e w' => e = .returned (.bool (M1.inB n lo hi)) ∧ w' = w := by
 unfold M1.inB
 by_cases h1 : lo ≤ n <;> by_cases h2 : n ≤ hi
 all_goals
  go_enter Tryz.func65, Tryz.ntmps65
  go_wp2
  go_ret
  exact ⟨by simp [*], rfl⟩

theorem inRange_any (n lo hi : Int) (w : World) :
  Calls Tryz.prog 52 #[.int .i64 n, .int .i64 lo, .int .i64 hi] w fun e w' => e = .returned (.bool (M1.inB n lo hi)) ∧ w' = w := by
 unfold M1.inB
 by_cases h1 : lo ≤ n <;> by_cases h2 : n ≤ hi
 all_goals
  go_enter Tryz.func52, Tryz.ntmps52
  go_wp2
  go_ret
  exact ⟨by simp [*], rfl⟩

theorem timeOk_any (n : Int) (w : World) :
  Calls Tryz.prog 83 #[.int .i64 n] w fun e w' => e = .returned (.bool (M1.inB n 0 1000000000)) ∧ w' = w := by
 go_enter Tryz.func83, Tryz.ntmps83
 go_wp2_with ((go_at_call 52; refine (inRange_any _ _ _ _).mono ?_; rintro e w' ⟨rfl, rfl⟩))
 go_ret
 exact ⟨rfl, rfl⟩

theorem stampOk_spec (a b c : Int) (w : World) :
  Calls Tryz.prog 66 #[.agg #[.int .i64 a, .int .i64 b, .int .i64 c]] w fun e w' => e = .returned (.bool (M1.stOk a b c)) ∧ Below w.heap.size w w' := by
 unfold M1.stOk
 go_enter Tryz.func66, Tryz.ntmps66
 go_wp2_with ((go_at_call 65; refine (l1In_any _ _ _ _).mono ?_; rintro e w' ⟨rfl, rfl⟩))
 all_goals (go_ret)
 all_goals (exact ⟨by simp [*], (Below.refl _ _).alloc (Nat.le_refl _) _⟩)

theorem stampOk_impl (a b c : Int) (w : World) :
  Calls Tryz.prog 53 #[.agg #[.int .i64 a, .int .i64 b, .int .i64 c]] w fun e w' => e = .returned (.bool (M1.stOk a b c)) ∧ Below w.heap.size w w' := by
 unfold M1.stOk
 go_enter Tryz.func53, Tryz.ntmps53
 go_wp2_with (first | (go_at_call 52; refine (inRange_any _ _ _ _).mono ?_; rintro e w' ⟨rfl, rfl⟩) | (go_at_call 83; refine (timeOk_any _ _).mono ?_; rintro e w' ⟨rfl, rfl⟩))
 all_goals (go_ret)
 all_goals (exact ⟨by simp [*], (Below.refl _ _).alloc (Nat.le_refl _) _⟩)

theorem ahead_spec (a b c x y z : Int) (w : World) :
  Calls Tryz.prog 109 #[.agg #[.int .i64 a, .int .i64 b, .int .i64 c], .agg #[.int .i64 x, .int .i64 y, .int .i64 z]] w fun e w' => e = .returned (.bool (M1.aheadB a b c x y z)) ∧ Below w.heap.size w w' := by
 unfold M1.aheadB
 go_enter Tryz.func109, Tryz.ntmps109
 go_wp2
 all_goals (go_ret)
 all_goals (exact ⟨by simp_all, ((Below.refl _ _).alloc (Nat.le_refl _) _).alloc (by simp) _⟩)

theorem ahead_impl (a b c x y z : Int) (w : World) :
  Calls Tryz.prog 125 #[.agg #[.int .i64 a, .int .i64 b, .int .i64 c], .agg #[.int .i64 x, .int .i64 y, .int .i64 z]] w fun e w' => e = .returned (.bool (M1.aheadB a b c x y z)) ∧ Below w.heap.size w w' := by
 unfold M1.aheadB
 go_enter Tryz.func125, Tryz.ntmps125
 go_wp2
 all_goals (go_ret)
 all_goals (exact ⟨by simp_all, ((Below.refl _ _).alloc (Nat.le_refl _) _).alloc (by simp) _⟩)

theorem next_spec (a b c now : Int) (w : World) (hb : 0 ≤ b ∧ b ≤ 1000000) :
  Calls Tryz.prog 123 #[.agg #[.int .i64 a, .int .i64 b, .int .i64 c], .int .i64 now] w fun e w' => e = .returned (.tuple #[.agg #[.int .i64 (M1.nextP a b c now).a, .int .i64 (M1.nextP a b c now).b, .int .i64 (M1.nextP a b c now).c], .bool (M1.nextP a b c now).ok]) ∧ Below w.heap.size w w' := by
 obtain ⟨hb1, hb2⟩ := hb
 by_cases h1 : a < now
 ·have e1 : M1.nextP a b c now = ⟨now, 0, c, true⟩ := by simp [M1.nextP, h1]
  rw [e1]; clear e1
  go_enter Tryz.func123, Tryz.ntmps123
  go_wp2
  refine bodyPost_ret (v := .tuple #[.agg #[.int .i64 now, .int .i64 0, .int .i64 c], .bool true]) (by simp [results, Tryz.results123, go_sem]) rfl ⟨rfl, ?_⟩
  repeat (first | (with_reducible exact Below.refl _ _) | ((with_reducible refine Below.setCell ?_ ?_ _); rotate_left; (focus (first | omega | (simp; done) | (simp; omega)))) | ((with_reducible refine Below.alloc ?_ ?_ _); rotate_left; (focus (first | omega | (simp; done) | (simp; omega)))) | (with_reducible refine Below.drew ?_))
 ·by_cases h2 : b = 1000000
  ·have e1 : M1.nextP a b c now = ⟨0, 0, 0, false⟩ := by simp [M1.nextP, h1, h2]
   rw [e1]; clear e1
   subst h2
   go_enter Tryz.func123, Tryz.ntmps123
   go_wp2
   refine bodyPost_ret (v := .tuple #[.agg #[.int .i64 0, .int .i64 0, .int .i64 0], .bool false]) (by simp [results, Tryz.results123, go_sem]) rfl ⟨rfl, ?_⟩
   repeat (first | (with_reducible exact Below.refl _ _) | ((with_reducible refine Below.setCell ?_ ?_ _); rotate_left; (focus (first | omega | (simp; done) | (simp; omega)))) | ((with_reducible refine Below.alloc ?_ ?_ _); rotate_left; (focus (first | omega | (simp; done) | (simp; omega)))) | (with_reducible refine Below.drew ?_))
  ·have e1 : M1.nextP a b c now = ⟨a, b + 1, c, true⟩ := by simp [M1.nextP, h1, h2]
   rw [e1]; clear e1
   have h3 : (b == 1000000) = false := by simp [h2]
   go_enter Tryz.func123, Tryz.ntmps123
   go_wp2
   refine bodyPost_ret (v := .tuple #[.agg #[.int .i64 a, .int .i64 (b + 1), .int .i64 c], .bool true]) (by simp [results, Tryz.results123, go_sem]) rfl ⟨rfl, ?_⟩
   repeat (first | (with_reducible exact Below.refl _ _) | ((with_reducible refine Below.setCell ?_ ?_ _); rotate_left; (focus (first | omega | (simp; done) | (simp; omega)))) | ((with_reducible refine Below.alloc ?_ ?_ _); rotate_left; (focus (first | omega | (simp; done) | (simp; omega)))) | (with_reducible refine Below.drew ?_))

end Go.Proofs.YtccendmoeelniaaGreatDoor
