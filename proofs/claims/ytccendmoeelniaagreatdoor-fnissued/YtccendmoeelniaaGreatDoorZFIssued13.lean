/-
  Texts of one proof, joined: Math15, Math33b, Math10, Math35, Iter.
-/
import Derived.Test.YtccendmoeelniaaGreatDoorZFIssued12
import Derived.Test.YtccendmoeelniaaGreatDoorZFIssued00
import Derived.Test.YtccendmoeelniaaGreatDoorZFIssued02
import Derived.RangeFuncNested
import Derived.RangeFuncBound
import Derived.RangeFuncCalls
import Derived.RangeFuncLeaves
import Derived.Shelf.Abstract
import Derived.Shelf.RegionOpen
import Derived.OwnWalkIn
import Derived.TacticsInMore
import Derived.LoopNIn
import Derived.LoopIn
namespace M1
theorem insD_keeps {u x : Upd} : ∀ {us : List Upd}, x ∈ us → x ∈ insD us u
 | [], h => by cases h
 | y :: t, h => by
  unfold insD
  split
  ·rcases List.mem_cons.1 h with h | h
   ·simp [h]
   ·exact List.mem_cons_of_mem _ (insD_keeps h)
  ·split
   ·exact h
   ·exact List.mem_cons_of_mem _ h

def Agr (xs ys : List Upd) : Prop := ∀ x, x ∈ xs → ∀ y, y ∈ ys → x.dr = y.dr → x.dn = y.dn → x = y

theorem Agr.symm {xs ys : List Upd} (h : Agr xs ys) : Agr ys xs := fun y hy x hx e1 e2 => (h x hx y hy e1.symm e2.symm).symm

theorem tkO_keeps {xs ys : List Upd} {x : Upd} (h : x ∈ xs) : ∀ k, x ∈ tkO xs ys k
 | 0 => h
 | k + 1 => by
  unfold tkO
  split
  ·exact insD_keeps (tkO_keeps h k)
  ·exact tkO_keeps h k

theorem tOk_true {xs ys : List Upd} (h : tOk xs ys = true) : setOk xs = true ∧ ys.length ≤ 60 ∧ setOk (tL xs ys) = true ∧ (∀ x, x ∈ xs → x ∈ tL xs ys) ∧ (∀ x, x ∈ tL xs ys → x ∈ xs ∨ x ∈ ys) := by
 have hL : tL xs ys = tO xs ys := by unfold tL; rw [if_pos h]
 rw [hL]
 unfold tOk at h
 rw [Bool.and_eq_true] at h
 obtain ⟨h1, h2, h3⟩ := tpre_true h.1
 refine ⟨h1, h2, h.2, fun x hx => tkO_keeps hx _, fun x hx => ?_⟩
 rcases tk_mem hx with q | ⟨j, hj, e⟩
 ·exact Or.inl q
 ·subst e; exact Or.inr (up_mem hj)

end M1

namespace M1
theorem tO_one {us : List Upd} {u : Upd} (h : setOk us = true) (hu : okU u = true) : tO us [u] = if u.dn = fm (l3v us) u.dr + 1 then insD us u else us := by
 obtain ⟨d1, d5, _, _⟩ := okU_dot hu
 have hs := ok_sorted (setOk_all h)
 have hl := (LInv.start (setOk_all h)).fm hs d1 d5
 show tkO us [u] 1 = _
 have e0 : up [u] 0 = u := rfl
 rw [tkO, e0, hl]
 rfl

theorem one_pre {us : List Upd} {u : Upd} (h : setOk us = true) (hu : okU u = true) : tpre us [u] = true := by
 unfold tpre
 rw [h, allR_yes (ys := [u]) fun j hj => by
  have : j = 0 := by simp at hj; omega
  subst this; exact hu]
 rfl

end M1

namespace M1
def laterB (sw sc a b : Int) : Bool := decide (a < sw) || (decide (sw = a) && decide (b < sc))

def noneLater (us : List Upd) (a b : Int) : Bool := (List.range us.length).all fun j => !laterB (up us j).sw (up us j).sc a b

def regOk (id a b c : Int) (us : List Upd) : Bool := inB id 1 5 && stOk a b c && decide (c = id) && setOk us && noneLater us a b

theorem noneLater_yes {us : List Upd} {a b : Int} (h : ∀ j, j < us.length → laterB (up us j).sw (up us j).sc a b = false) : noneLater us a b = true := by
 simp [noneLater]; exact h

theorem noneLater_no {us : List Upd} {a b : Int} {j : Nat} (hj : j < us.length) (h : laterB (up us j).sw (up us j).sc a b = true) : noneLater us a b = false := by
 simp [noneLater]; exact ⟨j, hj, h⟩

theorem noneLater_all {us : List Upd} {a b : Int} (h : noneLater us a b = true) : ∀ j, j < us.length → laterB (up us j).sw (up us j).sc a b = false := by
 simp [noneLater] at h; exact h

theorem regOk_1 {id a b c : Int} {us : List Upd} (h : inB id 1 5 = false) : regOk id a b c us = false := by simp [regOk, h]

theorem regOk_2 {id a b c : Int} {us : List Upd} (h : stOk a b c = false) : regOk id a b c us = false := by simp [regOk, h]

theorem regOk_3 {id a b c : Int} {us : List Upd} (h : ¬ c = id) : regOk id a b c us = false := by simp [regOk, h]

theorem regOk_4 {id a b c : Int} {us : List Upd} (h : setOk us = false) : regOk id a b c us = false := by simp [regOk, h]

theorem regOk_5 {id a b c : Int} {us : List Upd} (h1 : inB id 1 5 = true) (h2 : stOk a b c = true) (h3 : c = id) (h4 : setOk us = true) : regOk id a b c us = noneLater us a b := by unfold regOk; rw [h1, h2, h4, decide_eq_true h3]; rfl

end M1

namespace M1
def mtTo (a b c now : Int) (us : List Upd) : Nat → St
 | 0 => ⟨a, b, c, true⟩
 | k + 1 => if (mtTo a b c now us k).ok = true then metP (mtTo a b c now us k).a (mtTo a b c now us k).b (mtTo a b c now us k).c (up us k).sw (up us k).sc (up us k).sr now else ⟨0, 0, 0, false⟩

theorem mt_step {a b c now : Int} {us : List Upd} {k : Nat} (h : (mtTo a b c now us k).ok = true) : mtTo a b c now us (k + 1) = metP (mtTo a b c now us k).a (mtTo a b c now us k).b (mtTo a b c now us k).c (up us k).sw (up us k).sc (up us k).sr now := by
 show (if _ then _ else _) = _
 rw [if_pos h]

theorem mt_no {a b c now : Int} {us : List Upd} {k : Nat} (h : (mtTo a b c now us k).ok = false) : ∀ j, (mtTo a b c now us (k + j)).ok = false
 | 0 => h
 | j + 1 => by
  show (if _ then _ else (⟨0, 0, 0, false⟩ : St)).ok = false
  rw [if_neg (by have := mt_no h j; rw [show k.add j = k + j from rfl, this]; simp)]

theorem mt_fail {a b c now : Int} {us : List Upd} {k n : Nat} (h : (mtTo a b c now us k).ok = false) (hk : k ≤ n) : (mtTo a b c now us n).ok = false := by
 have := mt_no h (n - k)
 rwa [show k + (n - k) = n by omega] at this

structure Rg where
 id : Int
 a : Int
 b : Int
 c : Int
 us : List Upd

def zeroR : Rg := ⟨0, 0, 0, 0, []⟩

def rOk (r : Rg) : Bool := regOk r.id r.a r.b r.c r.us

def rcF (ys : List Upd) (now : Int) : Bool := !(decide (ys.length ≤ 60)) || (!(inB now 0 1000000000) || !(allR ys))

def mt (r : Rg) (ys : List Upd) (now : Int) : St := mtTo r.a r.b r.c now ys ys.length

def rcC (r : Rg) (ys : List Upd) (now : Int) : Int :=
 if rOk r = true then if rcF ys now = true then 2 else if tOk r.us ys = true then if (mt r ys now).ok = true then 0 else 4 else 3 else 1

def rcN (r : Rg) (ys : List Upd) (now : Int) : Rg := ⟨r.id, (mt r ys now).a, (mt r ys now).b, (mt r ys now).c, tL r.us ys⟩

def rcR (r : Rg) (ys : List Upd) (now : Int) : Rg :=
 if rOk r = true then if rcF ys now = true then r else if tOk r.us ys = true then if (mt r ys now).ok = true then rcN r ys now else r else r else zeroR

theorem rc_1 {r : Rg} {ys : List Upd} {now : Int} (h : rOk r = false) : rcC r ys now = 1 ∧ rcR r ys now = zeroR := by
 unfold rcC rcR; rw [h]; exact ⟨rfl, rfl⟩

theorem rc_2 {r : Rg} {ys : List Upd} {now : Int} (h : rOk r = true) (h2 : rcF ys now = true) : rcC r ys now = 2 ∧ rcR r ys now = r := by
 unfold rcC rcR; rw [h, h2]; exact ⟨rfl, rfl⟩

theorem rc_3 {r : Rg} {ys : List Upd} {now : Int} (h : rOk r = true) (h2 : rcF ys now = false) (h3 : tOk r.us ys = false) : rcC r ys now = 3 ∧ rcR r ys now = r := by
 unfold rcC rcR; rw [h, h2, h3]; exact ⟨rfl, rfl⟩

theorem rc_4 {r : Rg} {ys : List Upd} {now : Int} (h : rOk r = true) (h2 : rcF ys now = false) (h3 : tOk r.us ys = true) (h4 : (mt r ys now).ok = false) : rcC r ys now = 4 ∧ rcR r ys now = r := by
 unfold rcC rcR; rw [h, h2, h3, h4]; exact ⟨rfl, rfl⟩

theorem rc_0 {r : Rg} {ys : List Upd} {now : Int} (h : rOk r = true) (h2 : rcF ys now = false) (h3 : tOk r.us ys = true) (h4 : (mt r ys now).ok = true) : rcC r ys now = 0 ∧ rcR r ys now = rcN r ys now := by
 unfold rcC rcR; rw [h, h2, h3, h4]; exact ⟨rfl, rfl⟩

theorem rOk_set {r : Rg} (h : rOk r = true) : setOk r.us = true := by
 unfold rOk regOk at h; simp at h; exact h.1.2

theorem rcF_1 {ys : List Upd} {now : Int} (h : ¬ ys.length ≤ 60) : rcF ys now = true := by simp [rcF, h]

theorem rcF_2 {ys : List Upd} {now : Int} (h : inB now 0 1000000000 = false) : rcF ys now = true := by simp [rcF, h]

theorem rcF_3 {ys : List Upd} {now : Int} (h : allR ys = false) : rcF ys now = true := by simp [rcF, h]

theorem rcF_0 {ys : List Upd} {now : Int} (h1 : ys.length ≤ 60) (h2 : inB now 0 1000000000 = true) (h3 : allR ys = true) : rcF ys now = false := by simp [rcF, h1, h2, h3]

theorem tOk_all {xs ys : List Upd} (h : tOk xs ys = true) : allR ys = true := by
 unfold tOk tpre at h; simp at h; exact h.1.2

end M1

namespace M1
def ofT (kd tr : Int) (us : List Upd) : Nat → List Upd
 | 0 => []
 | k + 1 => if (up us k).k = kd ∧ (up us k).tr = tr then ofT kd tr us k ++ [up us k] else ofT kd tr us k

theorem ofT_len (kd tr : Int) (us : List Upd) : ∀ k, (ofT kd tr us k).length ≤ k
 | 0 => Nat.le_refl _
 | k + 1 => by
  have := ofT_len kd tr us k
  unfold ofT
  split
  ·simp; omega
  ·omega

theorem ofT_yes {kd tr : Int} {us : List Upd} {k : Nat} (h : (up us k).k = kd ∧ (up us k).tr = tr) : ofT kd tr us (k + 1) = ofT kd tr us k ++ [up us k] := by
 show (if (up us k).k = kd ∧ (up us k).tr = tr then _ else _) = _
 rw [if_pos h]

theorem ofT_no {kd tr : Int} {us : List Upd} {k : Nat} (h : ¬ ((up us k).k = kd ∧ (up us k).tr = tr)) : ofT kd tr us (k + 1) = ofT kd tr us k := by
 show (if (up us k).k = kd ∧ (up us k).tr = tr then _ else _) = _
 rw [if_neg h]

end M1
namespace Go.Proofs.YtccendmoeelniaaGreatDoor
open Go.ChangeShapes Go.WideShapes Go.ChangeAt Go.RowKit Go.Shelf
set_option linter.unusedSimpArgs false
attribute [local go_sem] Oper.semAt_some
def KpI (n₀ B : Nat) (W W' : World) : Prop := Below n₀ W W' ∧ ∀ b o, B ≤ b → b < B + 3 → W'.cell? ⟨b, o, none⟩ = W.cell? ⟨b, o, none⟩

theorem kpI_refl (n₀ B : Nat) (W : World) : KpI n₀ B W W := ⟨Below.refl _ _, fun _ _ _ _ => rfl⟩

theorem kpI_t {n₀ B : Nat} {X Y Z : World} (h : KpI n₀ B X Y) (k : KpI n₀ B Y Z) : KpI n₀ B X Z := ⟨h.1.trans k.1, fun b o h1 h2 => (k.2 b o h1 h2).trans (h.2 b o h1 h2)⟩

theorem kpI_alloc {n₀ B : Nat} {W : World} (h1 : n₀ ≤ W.heap.size) (h2 : B + 3 ≤ W.heap.size) (o : Obj) : KpI n₀ B W (W.alloc o) :=
 ⟨(Below.refl _ _).alloc h1 o, fun b x _ hb => ((Below.refl _ W).alloc (Nat.le_refl _) o).cell (p := ⟨b, x, none⟩) (by show b < W.heap.size; omega)⟩

theorem kpI_put {n₀ B : Nat} {w : World} (hn : n₀ ≤ w.heap.size) (hB : B + 3 ≤ w.heap.size) (W : World) (l : Nat) (o o' : Obj) (hl : w.heap.size ≤ l) (h : W.heap[l]? = some o) (h1 : o.isCells = false) (h2 : o.isWalk = false) : KpI n₀ B W (W.putObj l o') :=
 ⟨belowK_b hn W l o o' hl h h1 h2, fun b x _ hb => (belowK_b (Nat.le_refl w.heap.size) W l o o' hl h h1 h2).cell (p := ⟨b, x, none⟩) (by show b < w.heap.size; omega)⟩

set_option maxHeartbeats 1000000 in
theorem ofTrace_in (F : Fence) (n : Nat) (hF : F.fn 51) (hro : F.round = none) (a : Option Addr) (len cap : Nat) (kd tr : Int) (w : World) :
  CallsIn F n Tryz.prog 51 #[.slice a len cap, .int .i64 kd, .int .i64 tr] w fun e w' => e = .returned (.func (.func 100) #[] #[.pointer (some ⟨w.heap.size, 0, none⟩), .pointer (some ⟨w.heap.size + 1, 0, none⟩), .pointer (some ⟨w.heap.size + 1 + 1, 0, none⟩)]) ∧ w' = ((w.alloc (.cells #[.slice a len cap] 26)).alloc (.cells #[.int .i64 kd] 2)).alloc (.cells #[.int .i64 tr] 2) := by
 refine callsIn_of_wp Tryz.func51 rfl hF ?_ hro
 simp only [Tryz.ntmps51, List.size_toArray, List.length_cons, List.length_nil, Nat.reduceAdd, Nat.reduceSub, Array.replicate_succ, Array.replicate_zero, List.push_toArray, List.append_toArray, List.nil_append, List.cons_append]
 gi_wp2
 go_ret
 exact ⟨rfl, rfl⟩

set_option maxRecDepth 100000 in
set_option maxHeartbeats 4000000 in
theorem ofTrace1_in (F : Fence) (n : Nat) (hF : F.fn 100) (hro : F.round = none) (hn : 1 ≤ n) (l B n₀ : Nat) (av : Option Addr) (len cap : Nat) (kd tr : Int) (us : List M1.Upd) (W0 : World) (hn0 : n₀ = W0.heap.size) (h1 : IsUpds W0 av len cap us) (J Jx : List M1.Upd → World → Prop) (bJ : Nat) (hAJ : AbidesFrom bJ J)
  (hY : ∀ pre x W, J pre W → pre.length < len → YieldAt F (n - 1) Tryz.prog l #[.agg #[.int .i64 x.dr, .int .i64 x.dn, .int .i64 x.sw, .int .i64 x.sc, .int .i64 x.sr, .int .i64 x.k, .int .i64 x.tr, .int .i64 x.id, .int .i64 x.pa, .string x.s, .int .i64 x.st, .int .i64 x.en, .int .i64 x.lv]] W fun e W' =>
   (e = .returned (.bool true) ∧ J (pre ++ [x]) W' ∧ KpI n₀ B W W') ∨ (e = .returned (.bool false) ∧ Jx (pre ++ [x]) W'))
  (W : World) (hB0 : Below n₀ W0 W) (hBs : B + 3 ≤ W.heap.size) (b0 : W.cell? ⟨B, 0, none⟩ = some (.slice av len cap)) (b1 : W.cell? ⟨B + 1, 0, none⟩ = some (.int .i64 kd)) (b2 : W.cell? ⟨B + 1 + 1, 0, none⟩ = some (.int .i64 tr)) (h0 : J [] W) :
  CallsIn F n Tryz.prog 100 #[.func (.yield l) #[] #[], .pointer (some ⟨B, 0, none⟩), .pointer (some ⟨B + 1, 0, none⟩), .pointer (some ⟨B + 1 + 1, 0, none⟩)] W fun e W' => (∃ v, e = .returned v) ∧
   ((∃ ys, ys = M1.ofT kd tr us len ∧ J ys W') ∨ (∃ pre, (∃ k, k ≤ len ∧ pre = M1.ofT kd tr us k) ∧ Jx pre W')) := by
 have hm1 := h1.hcap
 have hm2 := h1.hmost
 unfold maxLen at hm2
 subst hn0
 refine callsIn_of_wp Tryz.func100 rfl hF ?_ hro
 simp only [Tryz.ntmps100, List.size_toArray, List.length_cons, List.length_nil, Nat.reduceAdd, Nat.reduceSub, Array.replicate_succ, Array.replicate_zero, List.push_toArray, List.append_toArray, List.nil_append, List.cons_append]
 gi_wp2
 gi_loopw [9] (fun i wr => ∃ k : Nat, k ≤ len ∧ i = .int .i64 k ∧ J (M1.ofT kd tr us k) wr ∧ KpI W0.heap.size B W wr)
  (fun i _ => len - (intOf i).toNat)
 case atStart => exact ⟨0, Nat.zero_le _, rfl, h0, kpI_refl _ _ _⟩
 case round =>
  obtain ⟨k, hk, rfl, hJs, hnx⟩ := hrel
  by_cases hlt : k < len
  ·have hB := hB0.trans hnx.1
   rcases (h1.below hB).hlies with h0 | ⟨b, off, rfl, hb, hc⟩
   ·omega
   obtain ⟨c0, c1, c2, c3, c4, c5, c6, c7, c8, c9, c10, c11, c12⟩ := hc k hlt
   clear hc
   have hz : B + 3 ≤ wr.heap.size := by have := hnx.1.size; omega
   have x1 := (hnx.2 (B + 1) 0 (by omega) (by omega)).trans b1
   have x2 := (hnx.2 (B + 1 + 1) 0 (by omega) (by omega)).trans b2
   have i0 : (0 : Int) ≤ (k : Int) := by omega
   have i1 : (k : Int) < (len : Int) := by omega
   have n1 : ¬ B + 1 = wr.heap.size := by omega
   have n2 : ¬ B + 1 + 1 = wr.heap.size := by omega
   have hJa : J (M1.ofT kd tr us k) (wr.alloc (.cells #[.int .i64 (M1.up us k).dr, .int .i64 (M1.up us k).dn, .int .i64 (M1.up us k).sw, .int .i64 (M1.up us k).sc, .int .i64 (M1.up us k).sr, .int .i64 (M1.up us k).k, .int .i64 (M1.up us k).tr, .int .i64 (M1.up us k).id, .int .i64 (M1.up us k).pa, .string (M1.up us k).s, .int .i64 (M1.up us k).st, .int .i64 (M1.up us k).en, .int .i64 (M1.up us k).lv] 38)) := hAJ _ _ _ none hJs (World.grownBy_alloc wr _ none) (fun r e => by cases e)
   have hka : KpI W0.heap.size B wr (wr.alloc (.cells #[.int .i64 (M1.up us k).dr, .int .i64 (M1.up us k).dn, .int .i64 (M1.up us k).sw, .int .i64 (M1.up us k).sc, .int .i64 (M1.up us k).sr, .int .i64 (M1.up us k).k, .int .i64 (M1.up us k).tr, .int .i64 (M1.up us k).id, .int .i64 (M1.up us k).pa, .string (M1.up us k).s, .int .i64 (M1.up us k).st, .int .i64 (M1.up us k).en, .int .i64 (M1.up us k).lv] 38)) := kpI_alloc hB.size hz _
   have y1 := (hka.2 (B + 1) 0 (by omega) (by omega)).trans x1
   have y2 := (hka.2 (B + 1 + 1) 0 (by omega) (by omega)).trans x2
   by_cases hq : (M1.up us k).k = kd ∧ (M1.up us k).tr = tr
   ·have q1 : ((M1.up us k).k == kd) = true := by simp [hq.1]
    have q2 : ((M1.up us k).tr == tr) = true := by simp [hq.2]
    have HT := M1.ofT_yes hq
    clear hq
    obtain ⟨fn, tmps, assign, body, hy, hR⟩ := hY _ (M1.up us k) _ hJa (by have := M1.ofT_len kd tr us k; omega)
    gi_wp2
    refine hR.mono ?_
    rintro e W3 (⟨rfl, hJ3, hk3⟩ | ⟨rfl, hJx3⟩)
    ·gi_wp2
     go_roundw
     case rel => exact ⟨k + 1, by omega, by simp, by rw [HT]; exact hJ3, kpI_t hnx (kpI_t hka hk3)⟩
     case measure => simp [intOf]; omega
    ·gi_wp2
     refine bodyPost_ret (results_none rfl _ _ _) rfl ?_
     exact ⟨⟨_, rfl⟩, .inr ⟨_, ⟨k + 1, by omega, HT.symm⟩, hJx3⟩⟩
   ·have HT := M1.ofT_no hq
    by_cases hq1 : (M1.up us k).k = kd
    ·have q1 : ((M1.up us k).k == kd) = true := by simp [hq1]
     have q2 : ((M1.up us k).tr == tr) = false := by simp; exact fun e => hq ⟨hq1, e⟩
     clear hq hq1
     gi_wp2
     refine ⟨fun _ h => (by cases h), ?_⟩
     gi_wp2
     go_roundw
     case rel => exact ⟨k + 1, by omega, by simp, by rw [HT]; exact hJa, kpI_t hnx hka⟩
     case measure => simp [intOf]; omega
    ·have q1 : ((M1.up us k).k == kd) = false := by simp [hq1]
     clear hq hq1
     gi_wp2
     refine ⟨fun _ h => (by cases h), ?_⟩
     gi_wp2
     go_roundw
     case rel => exact ⟨k + 1, by omega, by simp, by rw [HT]; exact hJa, kpI_t hnx hka⟩
     case measure => simp [intOf]; omega
  ·obtain rfl : k = len := by omega
   gi_wp2
   go_end0
   exact ⟨⟨_, rfl⟩, .inl ⟨_, rfl, hJs⟩⟩

end Go.Proofs.YtccendmoeelniaaGreatDoor
