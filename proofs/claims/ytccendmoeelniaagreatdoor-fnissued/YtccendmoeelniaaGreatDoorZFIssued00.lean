/-
  Texts of one proof, joined: Math1, Math2, Math3, Math4, Math5, Math14a.
-/
namespace M1
def inB (n lo hi : Int) : Bool := decide (lo ≤ n) && decide (n ≤ hi)

theorem inB_true {n lo hi : Int} (h : inB n lo hi = true) : lo ≤ n ∧ n ≤ hi := by
 simpa [inB] using h

def stOk (a b c : Int) : Bool := inB a 0 1000000000 && inB b 0 1000000 && inB c 1 5

theorem stOk_true {a b c : Int} (h : stOk a b c = true) : 0 ≤ a ∧ a ≤ 1000000000 ∧ 0 ≤ b ∧ b ≤ 1000000 ∧ 1 ≤ c ∧ c ≤ 5 := by
 simp [stOk, inB] at h; omega

theorem stOk_mk {a b c : Int} (h : 0 ≤ a ∧ a ≤ 1000000000 ∧ 0 ≤ b ∧ b ≤ 1000000 ∧ 1 ≤ c ∧ c ≤ 5) : stOk a b c = true := by
 simp [stOk, inB]; omega

def aheadB (a b c x y z : Int) : Bool :=
 if a = x then (if b = y then decide (c < z) else decide (b < y)) else decide (a < x)

structure St where
 a : Int
 b : Int
 c : Int
 ok : Bool

def nextP (a b c now : Int) : St :=
 if a < now then ⟨now, 0, c, true⟩ else if b = 1000000 then ⟨0, 0, 0, false⟩ else ⟨a, b + 1, c, true⟩

def tickP (a b c now : Int) : St :=
 if stOk a b c = true ∧ inB now 0 1000000000 = true then nextP a b c now else ⟨0, 0, 0, false⟩

def overB (a b x y : Int) : Bool := decide (a < x) || (decide (x = a) && decide (b < y))

def metP (a b c x y z now : Int) : St :=
 if stOk a b c = true ∧ stOk x y z = true ∧ inB now 0 1000000000 = true then
  (if overB a b x y = true then nextP x y c now else nextP a b c now) else ⟨0, 0, 0, false⟩

theorem next_props {a b c now : Int} (h : stOk a b c = true) (hn : inB now 0 1000000000 = true) (hk : (nextP a b c now).ok = true) :
  aheadB a b c (nextP a b c now).a (nextP a b c now).b (nextP a b c now).c = true ∧ now ≤ (nextP a b c now).a ∧ (nextP a b c now).c = c ∧ stOk (nextP a b c now).a (nextP a b c now).b (nextP a b c now).c = true ∧ (a < (nextP a b c now).a ∨ ((nextP a b c now).a = a ∧ b < (nextP a b c now).b)) := by
 have h1 := stOk_true h
 have h2 := inB_true hn
 unfold nextP at hk ⊢
 by_cases e1 : a < now
 ·simp only [if_pos e1]
  have e2 : ¬ a = now := by omega
  refine ⟨by simp [aheadB, e2, e1], by omega, by trivial, stOk_mk (by omega), by omega⟩
 ·simp only [if_neg e1] at hk ⊢
  by_cases e2 : b = 1000000
  ·simp [e2] at hk
  ·simp only [if_neg e2] at hk ⊢
   have e3 : ¬ b = b + 1 := by omega
   refine ⟨?_, by omega, by trivial, stOk_mk (by omega), by first | omega | (simp; done) | (simp; omega)⟩
   unfold aheadB
   rw [if_pos rfl, if_neg e3]
   simp; omega

end M1

namespace M1
def rg (l : List (Int × Int)) (i : Nat) : Int := (l.getD i (0, 0)).1

def nm (l : List (Int × Int)) (i : Nat) : Int := (l.getD i (0, 0)).2

def dotOk (a b : Int) : Bool := inB a 1 5 && inB b 1 1000000

theorem dotOk_true {a b : Int} (h : dotOk a b = true) : 1 ≤ a ∧ a ≤ 5 ∧ 1 ≤ b ∧ b ≤ 1000000 := by
 simp [dotOk, inB] at h; omega

def vokAt (l : List (Int × Int)) (i : Nat) : Bool := dotOk (rg l i) (nm l i) && (decide (i = 0) || decide (rg l (i - 1) < rg l i))

def vecOk (l : List (Int × Int)) : Bool := (List.range l.length).all (vokAt l)

theorem vecOk_yes {l : List (Int × Int)} (h : ∀ j, j < l.length → vokAt l j = true) : vecOk l = true := by
 simp [vecOk]; exact h

theorem vecOk_no {l : List (Int × Int)} {j : Nat} (hj : j < l.length) (h : vokAt l j = false) : vecOk l = false := by
 simp [vecOk]; exact ⟨j, hj, h⟩

theorem vecOk_all {l : List (Int × Int)} (h : vecOk l = true) : ∀ j, j < l.length → vokAt l j = true := by
 simpa [vecOk] using h

def lkTo (l : List (Int × Int)) : Nat → Int → Int
 | 0, _ => 0
 | k + 1, r => if rg l k = r then nm l k else lkTo l k r

def lk (l : List (Int × Int)) (r : Int) : Int := lkTo l l.length r

theorem lkTo_succ (l : List (Int × Int)) (k : Nat) (r : Int) : lkTo l (k + 1) r = if rg l k = r then nm l k else lkTo l k r := rfl

def lastR (l : List (Int × Int)) : Nat → Int
 | 0 => 0
 | k + 1 => rg l k

theorem vokAt_last {l : List (Int × Int)} {k : Nat} (hd : dotOk (rg l k) (nm l k) = true) (h : lastR l k < rg l k) : vokAt l k = true := by
 cases k with
 | zero => simp [vokAt, hd]
 | succ j => simp [vokAt, hd]; exact h

theorem vokAt_not {l : List (Int × Int)} {k : Nat} (hd : dotOk (rg l k) (nm l k) = true) (h : ¬ lastR l k < rg l k) : vokAt l k = false := by
 cases k with
 | zero => have := dotOk_true hd; simp [lastR] at h; omega
 | succ j => simp [vokAt, hd]; simpa [lastR] using h

theorem vok_dot {l : List (Int × Int)} {j : Nat} (h : vokAt l j = true) : dotOk (rg l j) (nm l j) = true := by
 simp [vokAt] at h; exact h.1

theorem lkTo_none {l : List (Int × Int)} {r : Int} : ∀ k, (∀ j, j < k → ¬ rg l j = r) → lkTo l k r = 0
 | 0, _ => rfl
 | k + 1, h => by rw [lkTo_succ, if_neg (h k (by omega))]; exact lkTo_none k (fun j hj => h j (by omega))

theorem lk_none {l : List (Int × Int)} {r : Int} (h : ∀ j, j < l.length → ¬ rg l j = r) : lk l r = 0 := lkTo_none _ h

theorem lk_some_or (l : List (Int × Int)) (r : Int) : (∀ j, j < l.length → ¬ rg l j = r) ∨ ∃ j, j < l.length ∧ rg l j = r := by
 by_cases h : ∃ j, j < l.length ∧ rg l j = r
 ·exact Or.inr h
 ·exact Or.inl fun j hj e => h ⟨j, hj, e⟩

theorem lk_out {l : List (Int × Int)} (h : vecOk l = true) {r : Int} (hr : r < 1 ∨ 5 < r) : lk l r = 0 := by
 rcases lk_some_or l r with hn | ⟨j, hj, e⟩
 ·exact lk_none hn
 ·have := dotOk_true (vok_dot (vecOk_all h j hj)); omega

def dlTo (f : Int → Int) : Nat → List (Int × Int)
 | 0 => []
 | k + 1 => dlTo f k ++ (if 0 < f (k + 1) then [((k : Int) + 1, f (k + 1))] else [])

theorem dlTo_yes {f : Int → Int} {k : Nat} (h : 0 < f (k + 1)) : dlTo f (k + 1) = dlTo f k ++ [((k : Int) + 1, f (k + 1))] := by simp [dlTo, h]

theorem dlTo_no {f : Int → Int} {k : Nat} (h : ¬ 0 < f (k + 1)) : dlTo f (k + 1) = dlTo f k := by simp [dlTo, h]

theorem dlTo_len (f : Int → Int) : ∀ k, (dlTo f k).length ≤ k
 | 0 => by simp [dlTo]
 | k + 1 => by
  have := dlTo_len f k
  by_cases h : 0 < f (k + 1)
  ·rw [dlTo_yes h]; simp; omega
  ·rw [dlTo_no h]; omega

theorem dl_step (f : Int → Int) (k : Nat) (r : Int) (hr : (k : Int) + 1 = r) (h : 0 < f r) : dlTo f (k + 1) = dlTo f k ++ [(r, f r)] := by subst hr; exact dlTo_yes h

theorem dl_stay (f : Int → Int) (k : Nat) (r : Int) (hr : (k : Int) + 1 = r) (h : ¬ 0 < f r) : dlTo f (k + 1) = dlTo f k := by subst hr; exact dlTo_no h

end M1

namespace M1
def letB (c : UInt8) : Bool := decide (97 ≤ (c.toNat : Int)) && decide ((c.toNat : Int) ≤ 122)

def allB (s : ByteArray) : Bool := s.data.toList.all letB

def nameB (s : ByteArray) : Bool := (decide (1 ≤ s.size) && decide (s.size ≤ 12)) && allB s

theorem allB_yes {s : ByteArray} (h : ∀ j (hj : j < s.size), letB s[j] = true) : allB s = true := by
 unfold allB
 rw [List.all_eq_true]
 intro x hx
 obtain ⟨j, hj, rfl⟩ := List.mem_iff_getElem.1 hx
 have h2 : letB s.data[j] = true := h j (by simpa using hj)
 simpa using h2

theorem allB_no {s : ByteArray} {j : Nat} (hj : j < s.size) (h : letB s[j] = false) : allB s = false := by
 unfold allB
 rw [List.all_eq_false]
 refine ⟨s[j], ?_, by simp [h]⟩
 show s.data[j] ∈ _
 simp

def spanB (id parent : Int) (s : ByteArray) (start fin : Int) : Bool :=
 inB id 1 1000 && inB parent 0 1000 && (parent != id) && nameB s && inB start 0 1000000000 && inB fin start 1000000000

theorem spanB_eq (id parent : Int) (s : ByteArray) (start fin : Int) : spanB id parent s start fin =
  (inB id 1 1000 && inB parent 0 1000 && (parent != id) && nameB s && inB start 0 1000000000 && inB fin 0 1000000000 && decide (start ≤ fin)) := by
 unfold spanB
 generalize nameB s = b
 generalize (parent != id) = c
 rw [Bool.eq_iff_iff]
 cases b <;> cases c
 all_goals first | (simp [inB]; done) | (simp [inB]; omega)

end M1

namespace M1
def zeroB (id pa : Int) (s : ByteArray) (st en : Int) : Bool := decide (id = 0) && decide (pa = 0) && decide (s.toList = []) && decide (st = 0) && decide (en = 0)

def headB (dr dn sw sc sr tr : Int) : Bool := dotOk dr dn && stOk sw sc sr && decide (sr = dr) && inB tr 1 1000

def kindB (k id pa : Int) (s : ByteArray) (st en lv : Int) : Bool :=
 if k = 1 then spanB id pa s st en && (lv == 0)
 else if k = 2 then zeroB id pa s st en && (lv == 0)
 else if k = 3 then zeroB id pa s st en && inB lv 1 1000000
 else false

def updB (dr dn sw sc sr k tr id pa : Int) (s : ByteArray) (st en lv : Int) : Bool := headB dr dn sw sc sr tr && kindB k id pa s st en lv

end M1

namespace M1
structure Upd where
 dr : Int
 dn : Int
 sw : Int
 sc : Int
 sr : Int
 k : Int
 tr : Int
 id : Int
 pa : Int
 s : ByteArray
 st : Int
 en : Int
 lv : Int

def zeroU : Upd := ⟨0, 0, 0, 0, 0, 0, 0, 0, 0, ByteArray.empty, 0, 0, 0⟩

def up (us : List Upd) (i : Nat) : Upd := us.getD i zeroU

def okU (u : Upd) : Bool := updB u.dr u.dn u.sw u.sc u.sr u.k u.tr u.id u.pa u.s u.st u.en u.lv

def fol (a b : Upd) : Bool :=
 if b.dr = a.dr then decide (b.dn = a.dn + 1) && aheadB a.sw a.sc a.sr b.sw b.sc b.sr else decide (a.dr < b.dr) && decide (b.dn = 1)

def okAt (us : List Upd) (j : Nat) : Bool := okU (up us j) && (if j = 0 then decide ((up us j).dn = 1) else fol (up us (j - 1)) (up us j))

def setOk (us : List Upd) : Bool := decide (us.length ≤ 60) && (List.range us.length).all (okAt us)

theorem setOk_yes {l : List Upd} (h : ∀ j, j < l.length → okAt l j = true) : setOk l = decide (l.length ≤ 60) := by
 have : (List.range l.length).all (okAt l) = true := by simp; exact h
 unfold setOk; rw [this]; simp

theorem setOk_no {l : List Upd} {j : Nat} (hj : j < l.length) (h : okAt l j = false) : setOk l = false := by
 simp [setOk]; intro _; exact ⟨j, hj, h⟩

theorem setOk_all {l : List Upd} (h : setOk l = true) : ∀ j, j < l.length → okAt l j = true := by
 simp [setOk] at h; exact h.2

theorem setOk_len {l : List Upd} (h : setOk l = true) : l.length ≤ 60 := by
 simp [setOk] at h; exact h.1

theorem okAt_ok {l : List Upd} {j : Nat} (h : okAt l j = true) : okU (up l j) = true := by
 simp [okAt] at h; exact h.1

theorem okU_dot {u : Upd} (h : okU u = true) : 1 ≤ u.dr ∧ u.dr ≤ 5 ∧ 1 ≤ u.dn ∧ u.dn ≤ 1000000 := by
 simp [okU, updB, headB] at h
 exact dotOk_true h.1.1.1.1

def dahead (a b x y : Int) : Bool := decide (a < x) || (decide (a = x) && decide (b < y))

def cmpI (x y : Int) : Int := if x < y then -1 else if y < x then 1 else 0

def orI (x y : Int) : Int := if x = 0 then y else x

theorem dahead_cmp (a b x y : Int) : decide (orI (cmpI a x) (cmpI b y) < 0) = dahead a b x y := by
 unfold orI cmpI dahead
 by_cases h1 : a < x
 ·simp [h1]
 ·by_cases h2 : x < a
  ·have h3 : ¬ a = x := by omega
   simp [h1, h2, h3]
  ·have h3 : a = x := by omega
   by_cases h4 : b < y
   ·simp [h3, h4]
   ·by_cases h5 : y < b
    ·simp [h3, h4, h5]
    ·simp [h3, h4, h5]

end M1

namespace M1
def allR (ys : List Upd) : Bool := (List.range ys.length).all fun j => okU (up ys j)

theorem allR_yes {ys : List Upd} (h : ∀ j, j < ys.length → okU (up ys j) = true) : allR ys = true := by simp [allR]; exact h

theorem allR_no {ys : List Upd} {j : Nat} (hj : j < ys.length) (h : okU (up ys j) = false) : allR ys = false := by simp [allR]; exact ⟨j, hj, h⟩

theorem allR_all {ys : List Upd} (h : allR ys = true) : ∀ j, j < ys.length → okU (up ys j) = true := by simp [allR] at h; exact h

end M1
