/-
  Texts of one proof, joined: Math37, Math38, SameS, Sn1.
-/
import Derived.Test.YtccendmoeelniaaGreatDoorZFSameOps17
import Derived.Test.YtccendmoeelniaaGreatDoorZFSameOps13
import Derived.Test.YtccendmoeelniaaGreatDoorZFSameOps04
import Derived.Test.YtccendmoeelniaaGreatDoorZFSameOps01
import Derived.Test.YtccendmoeelniaaGreatDoorZFSameOps02
import Derived.Test.YtccendmoeelniaaGreatDoorZFSameOps19
import Derived.Test.YtccendmoeelniaaGreatDoorRows
import Derived.Stop.LaidTwo
import Derived.LaidMore
namespace M1
def le2 (a b x y : Int) : Prop := a < x ∨ (x = a ∧ b ≤ y)

theorem le2.trans {a b c d e f : Int} (h : le2 a b c d) (k : le2 c d e f) : le2 a b e f := by
 unfold le2 at *; omega

theorem ofT_mem {kd tr : Int} {us : List Upd} : ∀ n x, x ∈ ofT kd tr us n → ∃ i, i < n ∧ up us i = x ∧ x.k = kd ∧ x.tr = tr
 | 0, x, h => by cases h
 | n + 1, x, h => by
  by_cases q : (up us n).k = kd ∧ (up us n).tr = tr
  ·rw [ofT_yes q] at h
   rcases List.mem_append.1 h with h | h
   ·obtain ⟨i, hi, e⟩ := ofT_mem n x h; exact ⟨i, by omega, e⟩
   ·have e := List.mem_singleton.1 h
    exact ⟨n, by omega, e.symm, by rw [e]; exact q.1, by rw [e]; exact q.2⟩
  ·rw [ofT_no q] at h
   obtain ⟨i, hi, e⟩ := ofT_mem n x h; exact ⟨i, by omega, e⟩

theorem mem_ofT {kd tr : Int} {us : List Upd} : ∀ n i, i < n → (up us i).k = kd → (up us i).tr = tr → up us i ∈ ofT kd tr us n
 | 0, i, h, _, _ => absurd h (Nat.not_lt_zero _)
 | n + 1, i, h, hk, ht => by
  by_cases e : i = n
  ·subst e; rw [ofT_yes ⟨hk, ht⟩]; simp
  ·have := mem_ofT (kd := kd) (tr := tr) (us := us) n i (by omega) hk ht
   by_cases q : (up us n).k = kd ∧ (up us n).tr = tr
   ·rw [ofT_yes q]; exact List.mem_append.2 (.inl this)
   ·rw [ofT_no q]; exact this

theorem lvl_le {xs : List Upd} {m : Int} (h0 : 0 ≤ m) (h : ∀ x ∈ xs, x.lv ≤ m) : lvl xs ≤ m := by
 have key : ∀ (l : List Upd) (a : Int), a ≤ m → (∀ x ∈ l, x.lv ≤ m) → l.foldl (fun m u => max m u.lv) a ≤ m := by
  intro l
  induction l with
  | nil => intro a ha _; exact ha
  | cons u t ih => intro a ha hx; exact ih _ (by have := hx u (List.mem_cons_self ..); show max a u.lv ≤ m; omega) (fun x hx' => hx x (List.mem_cons_of_mem _ hx'))
 exact key xs 0 h0 h

theorem le_lvl {xs : List Upd} {x : Upd} (hx : x ∈ xs) : x.lv ≤ lvl xs := by
 have mono : ∀ (l : List Upd) (a : Int), a ≤ l.foldl (fun m u => max m u.lv) a := by
  intro l
  induction l with
  | nil => intro a; exact Int.le_refl _
  | cons u t ih => intro a; have := ih (max a u.lv); show a ≤ t.foldl _ (max a u.lv); omega
 have key : ∀ (l : List Upd) (a : Int), x ∈ l → x.lv ≤ l.foldl (fun m u => max m u.lv) a := by
  intro l
  induction l with
  | nil => intro a h; cases h
  | cons u t ih =>
   intro a h
   rcases List.mem_cons.1 h with e | h
   ·have := mono t (max a u.lv); rw [e]; show u.lv ≤ t.foldl _ (max a u.lv); omega
   ·exact ih _ h
 exact key xs 0 hx

theorem nu_mem {r : Rg} {o : OpV} {now : Int} (h : rOk r = true) (x : Upd) : x ∈ insD r.us (nuU r o now) ↔ x = nuU r o now ∨ x ∈ r.us := by
 rw [(insD_new (nu_new (o := o) (now := now) h)).mem_iff]; exact List.mem_cons

theorem nu_level {r : Rg} {o : OpV} {now : Int} (h : rOk r = true) (h1 : ¬ o.k = 1) (h2 : ¬ o.k = 2) : lvT (insD r.us (nuU r o now)) o.t = lvT r.us o.t + 1 := by
 have e := nuU_3 (r := r) (now := now) h1 h2
 have hk : (nuU r o now).k = 3 := by rw [e]
 have ht : (nuU r o now).tr = o.t := by rw [e]
 have hl : (nuU r o now).lv = lvT r.us o.t + 1 := by rw [e]
 have h0 : 0 ≤ lvT r.us o.t := lvl_nonneg _
 apply Int.le_antisymm
 ·refine lvl_le (by omega) fun x hx => ?_
  obtain ⟨i, hi, ex, xk, xt⟩ := ofT_mem _ x hx
  rcases (nu_mem h x).1 (by rw [← ex]; exact up_mem hi) with q | q
  ·rw [q, hl]; omega
  ·obtain ⟨j, hj, ej⟩ := mem_up q
   have := le_lvl (mem_ofT (kd := 3) (tr := o.t) (us := r.us) r.us.length j hj (by rw [ej]; exact xk) (by rw [ej]; exact xt))
   rw [ej] at this
   show x.lv ≤ lvT r.us o.t + 1
   unfold lvT; omega
 ·obtain ⟨i, hi, ei⟩ := mem_up ((nu_mem (o := o) (now := now) h _).2 (.inl rfl))
  have := le_lvl (mem_ofT (kd := 3) (tr := o.t) (us := insD r.us (nuU r o now)) _ i hi (by rw [ei]; exact hk) (by rw [ei]; exact ht))
  rw [ei, hl] at this
  exact this

theorem is_zero {r : Rg} {o : OpV} {now : Int} (h : isC r o now = 0) : rOk r = true ∧ isF o now = false ∧ letsB r.us o = true ∧ (tk r now).ok = true ∧ tOk r.us [nuU r o now] = true := by
 unfold isC at h
 cases q : rOk r with
 | false => rw [q] at h; simp at h
 | true =>
  rw [q] at h
  cases q2 : isF o now with
  | true => rw [q2] at h; simp at h
  | false =>
   rw [q2] at h
   cases q3 : letsB r.us o with
   | false => rw [q3] at h; simp at h
   | true =>
    rw [q3] at h
    cases q4 : (tk r now).ok with
    | false => rw [q4] at h; simp at h
    | true =>
     rw [q4] at h
     cases q5 : tOk r.us [nuU r o now] with
     | false => rw [q5] at h; simp at h
     | true => exact ⟨rfl, rfl, rfl, rfl, rfl⟩

end M1

namespace M1.Vw
theorem ofT_mem {kd tr : Int} {us : List Upd} {x : Upd} : ∀ {k : Nat}, x ∈ ofT kd tr us k ↔ ∃ j, j < k ∧ x = up us j ∧ x.k = kd ∧ x.tr = tr
 | 0 => by simp [ofT]
 | k + 1 => by
  have ih := ofT_mem (kd := kd) (tr := tr) (us := us) (x := x) (k := k)
  by_cases c : (up us k).k = kd ∧ (up us k).tr = tr
  ·rw [ofT_yes c, List.mem_append, ih]
   constructor
   ·intro h
    rcases h with ⟨j, hj, q⟩ | h
    ·exact ⟨j, by omega, q⟩
    ·simp at h; subst h; exact ⟨k, by omega, rfl, c⟩
   ·rintro ⟨j, hj, e, q⟩
    by_cases ek : j = k
    ·subst ek; right; simp [e]
    ·exact Or.inl ⟨j, by omega, e, q⟩
  ·rw [ofT_no c, ih]
   constructor
   ·rintro ⟨j, hj, q⟩; exact ⟨j, by omega, q⟩
   ·rintro ⟨j, hj, e, q⟩
    by_cases ek : j = k
    ·subst ek; subst e; exact absurd q c
    ·exact ⟨j, by omega, e, q⟩

theorem ofT_all {kd tr : Int} {us : List Upd} {x : Upd} : x ∈ ofT kd tr us us.length ↔ x ∈ us ∧ x.k = kd ∧ x.tr = tr := by
 rw [ofT_mem]
 constructor
 ·rintro ⟨j, hj, e, q⟩; subst e; exact ⟨up_mem hj, q⟩
 ·rintro ⟨h, q⟩
  obtain ⟨j, hj, e⟩ := mem_up h
  exact ⟨j, hj, e.symm, q⟩

theorem lvl_key : ∀ (l : List Upd) (m : Int), m ≤ l.foldl (fun m u => max m u.lv) m ∧ (∀ x, x ∈ l → x.lv ≤ l.foldl (fun m u => max m u.lv) m) ∧ (l.foldl (fun m u => max m u.lv) m = m ∨ ∃ x, x ∈ l ∧ x.lv = l.foldl (fun m u => max m u.lv) m)
 | [], m => ⟨Int.le_refl _, fun x hx => (by cases hx), Or.inl rfl⟩
 | u :: l, m => by
  obtain ⟨h1, h2, h3⟩ := lvl_key l (max m u.lv)
  simp only [List.foldl_cons]
  refine ⟨by omega, fun x hx => ?_, ?_⟩
  ·rcases List.mem_cons.1 hx with e | e
   ·subst e; omega
   ·exact h2 x e
  ·rcases h3 with e | ⟨x, hx, e⟩
   ·by_cases c : m < u.lv
    ·exact Or.inr ⟨u, by simp, by rw [e]; omega⟩
    ·exact Or.inl (by rw [e]; omega)
   ·exact Or.inr ⟨x, by simp [hx], e⟩

theorem lvl_ge {l : List Upd} {x : Upd} (h : x ∈ l) : x.lv ≤ lvl l := (lvl_key l 0).2.1 x h

theorem lvl_at (l : List Upd) : lvl l = 0 ∨ ∃ x, x ∈ l ∧ x.lv = lvl l := (lvl_key l 0).2.2

theorem lvl_join {a b j : List Upd} (h : ∀ x, x ∈ j ↔ x ∈ a ∨ x ∈ b) : lvl j = max (lvl a) (lvl b) := by
 have n1 := (lvl_key a 0).1
 have n2 := (lvl_key b 0).1
 have n3 := (lvl_key j 0).1
 have m1 : 0 ≤ lvl a := n1
 have m2 : 0 ≤ lvl b := n2
 have m3 : 0 ≤ lvl j := n3
 refine Int.le_antisymm ?_ ?_
 ·rcases lvl_at j with e | ⟨x, hx, e⟩
  ·omega
  ·rcases (h x).1 hx with q | q
   ·have := lvl_ge q; omega
   ·have := lvl_ge q; omega
 ·have a1 : lvl a ≤ lvl j := by
   rcases lvl_at a with e | ⟨x, hx, e⟩
   ·omega
   ·have := lvl_ge ((h x).2 (Or.inl hx)); omega
  have a2 : lvl b ≤ lvl j := by
   rcases lvl_at b with e | ⟨x, hx, e⟩
   ·omega
   ·have := lvl_ge ((h x).2 (Or.inr hx)); omega
  omega

theorem ofT_join {kd tr : Int} {a b j : List Upd} (h : ∀ x, x ∈ j ↔ x ∈ a ∨ x ∈ b) : ∀ x, x ∈ ofT kd tr j j.length ↔ x ∈ ofT kd tr a a.length ∨ x ∈ ofT kd tr b b.length := fun x => by
 rw [ofT_all, ofT_all, ofT_all, h]
 constructor
 ·rintro ⟨q | q, e⟩
  ·exact Or.inl ⟨q, e⟩
  ·exact Or.inr ⟨q, e⟩
 ·rintro (⟨q, e⟩ | ⟨q, e⟩)
  ·exact ⟨Or.inl q, e⟩
  ·exact ⟨Or.inr q, e⟩

theorem views {xs ys : List Upd} (h : jOk xs ys = true) (tr : Int) : levelOf (jL xs ys) tr = max (levelOf xs tr) (levelOf ys tr) ∧ keptB (jL xs ys) tr = (keptB xs tr || keptB ys tr) ∧ visB (jL xs ys) tr = evenB (max (levelOf xs tr) (levelOf ys tr)) ∧ 0 ≤ levelOf xs tr ∧ 0 ≤ levelOf ys tr := by
 obtain ⟨h1, h2, h3⟩ := jL_ok h
 have hm := jL_mem h
 have e1 := lvl_join (ofT_join (kd := 3) (tr := tr) hm)
 have e2 := ofT_join (kd := 2) (tr := tr) hm
 have l1 : levelOf xs tr = lvl (ofT 3 tr xs xs.length) := by unfold levelOf; rw [if_pos h1]
 have l2 : levelOf ys tr = lvl (ofT 3 tr ys ys.length) := by unfold levelOf; rw [if_pos h2]
 have l3 : levelOf (jL xs ys) tr = lvl (ofT 3 tr (jL xs ys) (jL xs ys).length) := by unfold levelOf; rw [if_pos h3]
 refine ⟨by rw [l1, l2, l3, e1], ?_, ?_, by rw [l1]; exact lvl_nonneg _, by rw [l2]; exact lvl_nonneg _⟩
 ·unfold keptB
  rw [h1, h2, h3]
  simp only [Bool.true_and]
  have emp : ∀ l : List Upd, (!l.isEmpty) = true ↔ ∃ x, x ∈ l := fun l => by
   cases l with
   | nil => simp
   | cons a l => simp
  rw [Bool.eq_iff_iff, emp, Bool.or_eq_true, emp, emp]
  constructor
  ·rintro ⟨x, hx⟩
   rcases (e2 x).1 hx with q | q
   ·exact Or.inl ⟨x, q⟩
   ·exact Or.inr ⟨x, q⟩
  ·rintro (⟨x, hx⟩ | ⟨x, hx⟩)
   ·exact ⟨x, (e2 x).2 (Or.inl hx)⟩
   ·exact ⟨x, (e2 x).2 (Or.inr hx)⟩
 ·unfold visB
  rw [h3, Bool.true_and, e1, l1, l2]

theorem same_ops {r : Rg} {i2 t now : Int} {X : OpV} (hX : X.k = 3) (ht : X.t = t) (h1 : isC r X now = 0) (h2 : isC ⟨i2, r.a, r.b, i2, r.us⟩ X now = 0) (hj : jOk (isR r X now).us (isR ⟨i2, r.a, r.b, i2, r.us⟩ X now).us = true) : (isU r X now).lv = (isU ⟨i2, r.a, r.b, i2, r.us⟩ X now).lv ∧ levelOf (jL (isR r X now).us (isR ⟨i2, r.a, r.b, i2, r.us⟩ X now).us) t = (isU r X now).lv ∧ visB (jL (isR r X now).us (isR ⟨i2, r.a, r.b, i2, r.us⟩ X now).us) t = false := by
 subst ht
 obtain ⟨z1, z2, z3, z4, z5⟩ := is_zero h1
 obtain ⟨y1, y2, y3, y4, y5⟩ := is_zero h2
 have e1 := is_0 z1 z2 z3 z4 z5
 have e2 := is_0 y1 y2 y3 y4 y5
 have n1 : ¬ X.k = 1 := by omega
 have n2 : ¬ X.k = 2 := by omega
 have l1 := nu_level (now := now) z1 n1 n2
 have l2 := nu_level (now := now) y1 n1 n2
 have s1 : setOk (insD r.us (nuU r X now)) = true := by rw [← (nu_set z1).1]; exact z5
 have s2 : setOk (insD r.us (nuU ⟨i2, r.a, r.b, i2, r.us⟩ X now)) = true := by rw [← (nu_set y1).1]; exact y5
 rw [e1.2.1, e2.2.1] at hj ⊢
 rw [e1.2.2, e2.2.2]
 have u1 : (nuU r X now).lv = lvT r.us X.t + 1 := by rw [nuU_3 n1 n2]
 have u2 : (nuU ⟨i2, r.a, r.b, i2, r.us⟩ X now).lv = lvT r.us X.t + 1 := by rw [nuU_3 n1 n2]
 have v1 : levelOf (isN r X now).us X.t = lvT r.us X.t + 1 := by
  show levelOf (insD r.us (nuU r X now)) X.t = _
  unfold levelOf; rw [if_pos s1]; exact l1
 have v2 : levelOf (isN ⟨i2, r.a, r.b, i2, r.us⟩ X now).us X.t = lvT r.us X.t + 1 := by
  show levelOf (insD r.us (nuU ⟨i2, r.a, r.b, i2, r.us⟩ X now)) X.t = _
  unfold levelOf; rw [if_pos s2]; exact l2
 have V := views hj X.t
 have hev : evenB (lvT r.us X.t) = true := by
  have := z3; unfold letsB at this; rw [if_pos hX] at this; exact this
 refine ⟨by rw [u1, u2], ?_, ?_⟩
 ·rw [V.1, v1, v2, u1]; omega
 ·rw [V.2.2.1, v1, v2]
  unfold evenB at hev ⊢
  simp at hev ⊢
  omega

end M1.Vw

namespace M1
end M1
namespace Go.Proofs.YtccendmoeelniaaGreatDoor
open Go.ChangeShapes Go.WideShapes Go.ChangeAt Go.RowKit
set_option linter.unusedSimpArgs false
set_option linter.unusedVariables false
theorem big_any (av : Option Addr) (len cap : Nat) (w : World) (hc : len ≤ cap) (hm : cap ≤ maxLen) :
  Calls Tryz.prog 8 #[.slice av len cap] w fun e w' => e = .returned (.bool (decide ((1048576 : Int) < (len : Int)))) ∧ w' = w := by
 unfold maxLen at hm
 go_enter Tryz.func8, Tryz.ntmps8
 go_wp2
 go_ret
 exact ⟨rfl, rfl⟩

attribute [local go_sem high] eqU
end Go.Proofs.YtccendmoeelniaaGreatDoor

namespace Go.Proofs.YtccendmoeelniaaGreatDoor
open Go.ChangeShapes Go.WideShapes Go.ChangeAt Go.RowKit
set_option linter.unusedVariables false
theorem trodVars_len {H : Type} {enc : TypeId × Value → H} {P : Program} {W : World} {sp : Nat → Bool} : ∀ {ns : List String} {gs : List (DataW H)} {ps : List MemPlace}, DataW.TrodVars enc P W sp ns gs ps → gs.length = ns.length
 | [], [], _, _ => rfl
 | [], _ :: _, _, h => h.elim
 | _ :: _, [], _, h => h.elim
 | n :: ns, d :: ds, ps, h => by
  obtain ⟨_, _, _, _, _, _, _, _, _, _, hs, _⟩ := h
  simp [trodVars_len hs]

theorem list5 {A : Type} {l : List A} (h : l.length = 5) : ∃ a b c d e, l = [a, b, c, d, e] := by
 match l, h with
 | [a, b, c, d, e], _ => exact ⟨a, b, c, d, e, rfl⟩

def LL : List (String × DataW Unit) := Rows.fnExactReceivedRow.laid

theorem hd_rt : (Tryz.prog.cutTypes.find? (·.1 == "internal/reflectlite.rtype")).map (·.2) = some 187 := by kernel_rfl

theorem hd_et : Tryz.prog.globalNamed "errors.errorType" = some 5 := by kernel_rfl

theorem hd_size : Tryz.prog.types.size = 258 := by kernel_rfl

theorem hd_one : ((List.range 258).filter fun t => Tryz.prog.rowNamed t [101, 114, 114, 111, 114]) = [82] := by kernel_rfl

theorem handle_of {W : World} (h : handlesMet Tryz.prog (LL.take 1) W) : W.cell? ⟨5, 0, none⟩ = some (.iface 187 (rt 82)) := by
 obtain ⟨name, u, ty, e1, e2, e3, e4, e5⟩ := h ("errors.errorType", Rows.laid_errors_errorType) (by exact List.mem_cons_self)
 have en : name = [101, 114, 114, 111, 114] := (Option.some.inj e1).symm
 subst en
 obtain rfl := Option.some.inj (hd_rt.symm.trans e2)
 have hm : ty ∈ (List.range 258).filter fun t => Tryz.prog.rowNamed t [101, 114, 114, 111, 114] := List.mem_filter.2 ⟨List.mem_range.2 (by rw [← hd_size]; exact e3), e4⟩
 rw [hd_one] at hm
 obtain rfl := List.mem_singleton.1 hm
 have hh : typeHandle Tryz.prog 82 = .pointer (some ⟨6, 82, none⟩) := by kernel_rfl
 rw [hh] at e5
 simpa using World.var?_cell hd_et e5 0

theorem hd_star : "*" ++ "errors.errorString" = "*errors.errorString" := by decide

theorem hd_row (u : TypeId) (h : Tryz.prog.typeName? 3 u = some "*errors.errorString") : u = 223 :=
 typeName_ptr_named (nm := "errors.errorString") (by rw [hd_star]; kernel_rfl) (by kernel_rfl) (by decide) u (by rw [hd_star]; exact h)

theorem hd_c1 : Tryz.prog.cellsOf 243 = 1 := by kernel_rfl

theorem hd_c2 : Tryz.prog.cellsOf 9 = 1 := by kernel_rfl

theorem hd_p : laidMetH Tryz.prog LL = fun W => laidMet Tryz.prog (LL.drop 1) W ∧ handlesMet Tryz.prog (LL.take 1) W := rfl

theorem ne_of {W : World} {a b : Addr} {s t : ByteArray} (ha : W.cell? a = some (.string s)) (hb : W.cell? b = some (.string t)) (h : ¬ s.data.toList = t.data.toList) : a ≠ b := fun e => by
 rw [e, hb] at ha
 injection ha with ha
 injection ha with ha
 exact h (by rw [ha])

set_option maxRecDepth 100000 in
theorem sens_of {W : World} (h : laidMetH Tryz.prog LL W) : ∃ s0 s1 s2 s3 s4, Sens W s0 s1 s2 s3 s4 := by
 have h' : laidMet Tryz.prog (LL.drop 1) W ∧ handlesMet Tryz.prog (LL.take 1) W := by rw [hd_p] at h; exact h
 have ct := handle_of h'.2
 have q1 := h'.1
 have q2 : laidMet Tryz.prog (LL.drop 3) W := q1.tail.tail
 have q3 : laidMet Tryz.prog (LL.drop 4) W := q2.tail
 obtain ⟨a0, a1, s0, s1, c0, c1, t0, t1, hv0, hv1, hc0, hs0, _, hc1, hs1, _, n01, hb0, hb1⟩ := laid_sentinels2 (P := Tryz.prog) (g0 := 0) (g1 := 1) (tp := 223) q1 (by kernel_rfl) (by kernel_rfl) (by kernel_rfl) (by kernel_rfl) Tryz.underlying82 hd_row Tryz.underlying223 Tryz.underlying243 rfl rfl Tryz.underlying9 hd_c1 hd_c2
 obtain ⟨a4, a3, s4, s3, c4, c3, t4, t3, hv4, hv3, hc4, hs4, _, hc3, hs3, _, n43, hb4, hb3⟩ := laid_sentinels2 (P := Tryz.prog) (g0 := 4) (g1 := 3) (tp := 223) q2 (by kernel_rfl) (by kernel_rfl) (by kernel_rfl) (by kernel_rfl) Tryz.underlying82 hd_row Tryz.underlying223 Tryz.underlying243 rfl rfl Tryz.underlying9 hd_c1 hd_c2
 obtain ⟨_, a2, _, s2, _, c2, _, t2, _, hv2, _, _, _, hc2, hs2, _, _, _, hb2⟩ := laid_sentinels2 (P := Tryz.prog) (g0 := 3) (g1 := 2) (tp := 223) q3 (by kernel_rfl) (by kernel_rfl) (by kernel_rfl) (by kernel_rfl) Tryz.underlying82 hd_row Tryz.underlying223 Tryz.underlying243 rfl rfl Tryz.underlying9 hd_c1 hd_c2
 have v0 : W.cell? ⟨0, 0, none⟩ = some (es a0) := by simpa using World.var?_cell (P := Tryz.prog) (g := 0) (by kernel_rfl) hv0 0
 have v1 : W.cell? ⟨1, 0, none⟩ = some (es a1) := by simpa using World.var?_cell (P := Tryz.prog) (g := 1) (by kernel_rfl) hv1 0
 have v2 : W.cell? ⟨2, 0, none⟩ = some (es a2) := by simpa using World.var?_cell (P := Tryz.prog) (g := 2) (by kernel_rfl) hv2 0
 have v3 : W.cell? ⟨3, 0, none⟩ = some (es a3) := by simpa using World.var?_cell (P := Tryz.prog) (g := 3) (by kernel_rfl) hv3 0
 have v4 : W.cell? ⟨4, 0, none⟩ = some (es a4) := by simpa using World.var?_cell (P := Tryz.prog) (g := 4) (by kernel_rfl) hv4 0
 have g5 : 5 < W.heap.size := by
  rcases Nat.lt_or_ge 5 W.heap.size with q | q
  ·exact q
  ·have : W.heap[5]? = none := Array.getElem?_eq_none q
   simp [World.cell?, this] at ct
 exact ⟨a0, a1, a2, a3, a4, v0, v1, v2, v3, v4, ct, ⟨_, _, hb0⟩, ⟨_, _, hb1⟩, ⟨_, _, hb2⟩, ⟨_, _, hb3⟩, ⟨_, _, hb4⟩, n01, ne_of hc0 hc2 (by rw [hs0, hs2]; decide), ne_of hc0 hc3 (by rw [hs0, hs3]; decide), ne_of hc0 hc4 (by rw [hs0, hs4]; decide), ne_of hc1 hc2 (by rw [hs1, hs2]; decide), ne_of hc1 hc3 (by rw [hs1, hs3]; decide), ne_of hc1 hc4 (by rw [hs1, hs4]; decide), ne_of hc2 hc3 (by rw [hs2, hs3]; decide), ne_of hc2 hc4 (by rw [hs2, hs4]; decide), ne_of hc3 hc4 (by rw [hs3, hs4]; decide), g5⟩

end Go.Proofs.YtccendmoeelniaaGreatDoor
