/-
  Texts of one proof, joined: Math15, Math33b, Math10, Math35, Iter, Level.
-/
import Derived.Test.YtccendmoeelniaaGreatDoorZReceived12
import Derived.Test.YtccendmoeelniaaGreatDoorZReceived00
import Derived.Test.YtccendmoeelniaaGreatDoorZReceived01
import Derived.RangeFuncNested
import Derived.RangeFuncBound
import Derived.RangeFuncCalls
import Derived.RangeFuncLeaves
import Derived.Shelf.Abstract
import Derived.Shelf.RegionOpen
import Derived.OwnWalkIn
import Derived.TacticsInMore
import Derived.LoopNIn
import Derived.LoopIn
import Derived.Test.YtccendmoeelniaaGreatDoorZReceived08
namespace M1
theorem insD_keeps {u x : Upd} : ∀ {us : List Upd}, x ∈ us → x ∈ insD us u
  | [], h => by cases h
  | y :: t, h => by
    unfold insD
    split
    · rcases List.mem_cons.1 h with h | h
      · simp [h]
      · exact List.mem_cons_of_mem _ (insD_keeps h)
    · split
      · exact h
      · exact List.mem_cons_of_mem _ h

def Agr (xs ys : List Upd) : Prop := ∀ x, x ∈ xs → ∀ y, y ∈ ys → x.dr = y.dr → x.dn = y.dn → x = y

theorem Agr.symm {xs ys : List Upd} (h : Agr xs ys) : Agr ys xs := fun y hy x hx e1 e2 => (h x hx y hy e1.symm e2.symm).symm

theorem tkO_keeps {xs ys : List Upd} {x : Upd} (h : x ∈ xs) : ∀ k, x ∈ tkO xs ys k
  | 0 => h
  | k + 1 => by
    unfold tkO
    split
    · exact insD_keeps (tkO_keeps h k)
    · exact tkO_keeps h k

theorem tOk_true {xs ys : List Upd} (h : tOk xs ys = true) : setOk xs = true ∧ ys.length ≤ 60 ∧ setOk (tL xs ys) = true ∧ (∀ x, x ∈ xs → x ∈ tL xs ys) ∧ (∀ x, x ∈ tL xs ys → x ∈ xs ∨ x ∈ ys) := by
  have hL : tL xs ys = tO xs ys := by unfold tL; rw [if_pos h]
  rw [hL]
  unfold tOk at h
  rw [Bool.and_eq_true] at h
  obtain ⟨h1, h2, h3⟩ := tpre_true h.1
  refine ⟨h1, h2, h.2, fun x hx => tkO_keeps hx _, fun x hx => ?_⟩
  rcases tk_mem hx with q | ⟨j, hj, e⟩
  · exact Or.inl q
  · subst e; exact Or.inr (up_mem hj)

end M1

namespace M1
theorem tO_one {us : List Upd} {u : Upd} (h : setOk us = true) (hu : okU u = true) : tO us [u] = if u.dn = fm (l3v us) u.dr + 1 then insD us u else us := by
  obtain ⟨d1, d5, _, _⟩ := okU_dot hu
  have hs := ok_sorted (setOk_all h)
  have hl := (LInv.start (setOk_all h)).fm hs d1 d5
  show tkO us [u] 1 = _
  have e0 : up [u] 0 = u := rfl
  rw [tkO, e0, hl]
  rfl

theorem one_pre {us : List Upd} {u : Upd} (h : setOk us = true) (hu : okU u = true) : tpre us [u] = true := by
  unfold tpre
  rw [h, allR_yes (ys := [u]) fun j hj => by
    have : j = 0 := by simp at hj; omega
    subst this; exact hu]
  rfl

end M1

namespace M1
def laterB (sw sc a b : Int) : Bool := decide (a < sw) || (decide (sw = a) && decide (b < sc))

def noneLater (us : List Upd) (a b : Int) : Bool := (List.range us.length).all fun j => !laterB (up us j).sw (up us j).sc a b

def regOk (id a b c : Int) (us : List Upd) : Bool := inB id 1 5 && stOk a b c && decide (c = id) && setOk us && noneLater us a b

theorem noneLater_yes {us : List Upd} {a b : Int} (h : ∀ j, j < us.length → laterB (up us j).sw (up us j).sc a b = false) : noneLater us a b = true := by
  simp [noneLater]; exact h

theorem noneLater_no {us : List Upd} {a b : Int} {j : Nat} (hj : j < us.length) (h : laterB (up us j).sw (up us j).sc a b = true) : noneLater us a b = false := by
  simp [noneLater]; exact ⟨j, hj, h⟩

theorem noneLater_all {us : List Upd} {a b : Int} (h : noneLater us a b = true) : ∀ j, j < us.length → laterB (up us j).sw (up us j).sc a b = false := by
  simp [noneLater] at h; exact h

theorem regOk_1 {id a b c : Int} {us : List Upd} (h : inB id 1 5 = false) : regOk id a b c us = false := by simp [regOk, h]

theorem regOk_2 {id a b c : Int} {us : List Upd} (h : stOk a b c = false) : regOk id a b c us = false := by simp [regOk, h]

theorem regOk_3 {id a b c : Int} {us : List Upd} (h : ¬ c = id) : regOk id a b c us = false := by simp [regOk, h]

theorem regOk_4 {id a b c : Int} {us : List Upd} (h : setOk us = false) : regOk id a b c us = false := by simp [regOk, h]

theorem regOk_5 {id a b c : Int} {us : List Upd} (h1 : inB id 1 5 = true) (h2 : stOk a b c = true) (h3 : c = id) (h4 : setOk us = true) : regOk id a b c us = noneLater us a b := by unfold regOk; rw [h1, h2, h4, decide_eq_true h3]; rfl

end M1

namespace M1
def mtTo (a b c now : Int) (us : List Upd) : Nat → St
  | 0 => ⟨a, b, c, true⟩
  | k + 1 => if (mtTo a b c now us k).ok = true then metP (mtTo a b c now us k).a (mtTo a b c now us k).b (mtTo a b c now us k).c (up us k).sw (up us k).sc (up us k).sr now else ⟨0, 0, 0, false⟩

theorem mt_step {a b c now : Int} {us : List Upd} {k : Nat} (h : (mtTo a b c now us k).ok = true) : mtTo a b c now us (k + 1) = metP (mtTo a b c now us k).a (mtTo a b c now us k).b (mtTo a b c now us k).c (up us k).sw (up us k).sc (up us k).sr now := by
  show (if _ then _ else _) = _
  rw [if_pos h]

theorem mt_no {a b c now : Int} {us : List Upd} {k : Nat} (h : (mtTo a b c now us k).ok = false) : ∀ j, (mtTo a b c now us (k + j)).ok = false
  | 0 => h
  | j + 1 => by
    show (if _ then _ else (⟨0, 0, 0, false⟩ : St)).ok = false
    rw [if_neg (by have := mt_no h j; rw [show k.add j = k + j from rfl, this]; simp)]

theorem mt_fail {a b c now : Int} {us : List Upd} {k n : Nat} (h : (mtTo a b c now us k).ok = false) (hk : k ≤ n) : (mtTo a b c now us n).ok = false := by
  have := mt_no h (n - k)
  rwa [show k + (n - k) = n by omega] at this

structure Rg where
  id : Int
  a : Int
  b : Int
  c : Int
  us : List Upd

def zeroR : Rg := ⟨0, 0, 0, 0, []⟩

def rOk (r : Rg) : Bool := regOk r.id r.a r.b r.c r.us

def rcF (ys : List Upd) (now : Int) : Bool := !(decide (ys.length ≤ 60)) || (!(inB now 0 1000000000) || !(allR ys))

def mt (r : Rg) (ys : List Upd) (now : Int) : St := mtTo r.a r.b r.c now ys ys.length

def rcC (r : Rg) (ys : List Upd) (now : Int) : Int :=
  if rOk r = true then if rcF ys now = true then 2 else if tOk r.us ys = true then if (mt r ys now).ok = true then 0 else 4 else 3 else 1

def rcN (r : Rg) (ys : List Upd) (now : Int) : Rg := ⟨r.id, (mt r ys now).a, (mt r ys now).b, (mt r ys now).c, tL r.us ys⟩

def rcR (r : Rg) (ys : List Upd) (now : Int) : Rg :=
  if rOk r = true then if rcF ys now = true then r else if tOk r.us ys = true then if (mt r ys now).ok = true then rcN r ys now else r else r else zeroR

theorem rc_1 {r : Rg} {ys : List Upd} {now : Int} (h : rOk r = false) : rcC r ys now = 1 ∧ rcR r ys now = zeroR := by
  unfold rcC rcR; rw [h]; exact ⟨rfl, rfl⟩

theorem rc_2 {r : Rg} {ys : List Upd} {now : Int} (h : rOk r = true) (h2 : rcF ys now = true) : rcC r ys now = 2 ∧ rcR r ys now = r := by
  unfold rcC rcR; rw [h, h2]; exact ⟨rfl, rfl⟩

theorem rc_3 {r : Rg} {ys : List Upd} {now : Int} (h : rOk r = true) (h2 : rcF ys now = false) (h3 : tOk r.us ys = false) : rcC r ys now = 3 ∧ rcR r ys now = r := by
  unfold rcC rcR; rw [h, h2, h3]; exact ⟨rfl, rfl⟩

theorem rc_4 {r : Rg} {ys : List Upd} {now : Int} (h : rOk r = true) (h2 : rcF ys now = false) (h3 : tOk r.us ys = true) (h4 : (mt r ys now).ok = false) : rcC r ys now = 4 ∧ rcR r ys now = r := by
  unfold rcC rcR; rw [h, h2, h3, h4]; exact ⟨rfl, rfl⟩

theorem rc_0 {r : Rg} {ys : List Upd} {now : Int} (h : rOk r = true) (h2 : rcF ys now = false) (h3 : tOk r.us ys = true) (h4 : (mt r ys now).ok = true) : rcC r ys now = 0 ∧ rcR r ys now = rcN r ys now := by
  unfold rcC rcR; rw [h, h2, h3, h4]; exact ⟨rfl, rfl⟩

theorem rOk_set {r : Rg} (h : rOk r = true) : setOk r.us = true := by
  unfold rOk regOk at h; simp at h; exact h.1.2

theorem rcF_1 {ys : List Upd} {now : Int} (h : ¬ ys.length ≤ 60) : rcF ys now = true := by simp [rcF, h]

theorem rcF_2 {ys : List Upd} {now : Int} (h : inB now 0 1000000000 = false) : rcF ys now = true := by simp [rcF, h]

theorem rcF_3 {ys : List Upd} {now : Int} (h : allR ys = false) : rcF ys now = true := by simp [rcF, h]

theorem rcF_0 {ys : List Upd} {now : Int} (h1 : ys.length ≤ 60) (h2 : inB now 0 1000000000 = true) (h3 : allR ys = true) : rcF ys now = false := by simp [rcF, h1, h2, h3]

theorem tOk_all {xs ys : List Upd} (h : tOk xs ys = true) : allR ys = true := by
  unfold tOk tpre at h; simp at h; exact h.1.2

end M1

namespace M1
def ofT (kd tr : Int) (us : List Upd) : Nat → List Upd
  | 0 => []
  | k + 1 => if (up us k).k = kd ∧ (up us k).tr = tr then ofT kd tr us k ++ [up us k] else ofT kd tr us k

theorem ofT_yes {kd tr : Int} {us : List Upd} {k : Nat} (h : (up us k).k = kd ∧ (up us k).tr = tr) : ofT kd tr us (k + 1) = ofT kd tr us k ++ [up us k] := by
  show (if (up us k).k = kd ∧ (up us k).tr = tr then _ else _) = _
  rw [if_pos h]

theorem ofT_no {kd tr : Int} {us : List Upd} {k : Nat} (h : ¬ ((up us k).k = kd ∧ (up us k).tr = tr)) : ofT kd tr us (k + 1) = ofT kd tr us k := by
  show (if (up us k).k = kd ∧ (up us k).tr = tr then _ else _) = _
  rw [if_neg h]

end M1
namespace Go.Proofs.YtccendmoeelniaaGreatDoor
open Go.ChangeShapes Go.WideShapes Go.ChangeAt Go.RowKit Go.Shelf
set_option linter.unusedSimpArgs false
attribute [local go_sem] Oper.semAt_some
end Go.Proofs.YtccendmoeelniaaGreatDoor

namespace M1
def lvl (xs : List Upd) : Int := xs.foldl (fun m u => max m u.lv) 0

theorem lvl_snoc (xs : List Upd) (u : Upd) : lvl (xs ++ [u]) = max (lvl xs) u.lv := by simp [lvl]

end M1
namespace Go.Proofs.YtccendmoeelniaaGreatDoor
open Go.ChangeShapes Go.WideShapes Go.ChangeAt Go.RowKit Go.Shelf
set_option linter.unusedSimpArgs false
attribute [local go_sem] Oper.semAt_some
def UBox (W : World) (B : Nat) (u : M1.Upd) : Prop := W.heap[B]? = some (.cells #[.int .i64 u.dr, .int .i64 u.dn, .int .i64 u.sw, .int .i64 u.sc, .int .i64 u.sr, .int .i64 u.k, .int .i64 u.tr, .int .i64 u.id, .int .i64 u.pa, .string u.s, .int .i64 u.st, .int .i64 u.en, .int .i64 u.lv] 38 (0, 0))

theorem UBox.lt {W : World} {B : Nat} {u : M1.Upd} (h : UBox W B u) : B < W.heap.size := (Array.getElem?_eq_some_iff.1 h).1

theorem UBox.new (W : World) (u : M1.Upd) : UBox (W.alloc (.cells #[.int .i64 u.dr, .int .i64 u.dn, .int .i64 u.sw, .int .i64 u.sc, .int .i64 u.sr, .int .i64 u.k, .int .i64 u.tr, .int .i64 u.id, .int .i64 u.pa, .string u.s, .int .i64 u.st, .int .i64 u.en, .int .i64 u.lv] 38)) W.heap.size u := World.alloc_heap_new W _

end Go.Proofs.YtccendmoeelniaaGreatDoor
