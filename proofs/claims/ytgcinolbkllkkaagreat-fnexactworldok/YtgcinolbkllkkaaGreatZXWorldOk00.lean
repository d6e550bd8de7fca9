/-
  Texts of one proof, joined: Math1, Math2, Math3, Math4, Math5, Math7.
-/
namespace M1
def inB (n lo hi : Int) : Bool := decide (lo ≤ n) && decide (n ≤ hi)

theorem inB_true {n lo hi : Int} (h : inB n lo hi = true) : lo ≤ n ∧ n ≤ hi := by
 simpa [inB] using h

def stOk (a b c : Int) : Bool := inB a 0 1000000000 && inB b 0 1000000 && inB c 1 5

def aheadB (a b c x y z : Int) : Bool :=
 if a = x then (if b = y then decide (c < z) else decide (b < y)) else decide (a < x)

end M1

namespace M1
def rg (l : List (Int × Int)) (i : Nat) : Int := (l.getD i (0, 0)).1

def nm (l : List (Int × Int)) (i : Nat) : Int := (l.getD i (0, 0)).2

def dotOk (a b : Int) : Bool := inB a 1 5 && inB b 1 1000000

theorem dotOk_true {a b : Int} (h : dotOk a b = true) : 1 ≤ a ∧ a ≤ 5 ∧ 1 ≤ b ∧ b ≤ 1000000 := by
 simp [dotOk, inB] at h; omega

def eqd (a b x y : Int) : Bool := decide (a = x) && decide (b = y)

def vokAt (l : List (Int × Int)) (i : Nat) : Bool := dotOk (rg l i) (nm l i) && (decide (i = 0) || decide (rg l (i - 1) < rg l i))

def vecOk (l : List (Int × Int)) : Bool := (List.range l.length).all (vokAt l)

theorem vecOk_yes {l : List (Int × Int)} (h : ∀ j, j < l.length → vokAt l j = true) : vecOk l = true := by
 simp [vecOk]; exact h

theorem vecOk_no {l : List (Int × Int)} {j : Nat} (hj : j < l.length) (h : vokAt l j = false) : vecOk l = false := by
 simp [vecOk]; exact ⟨j, hj, h⟩

theorem list_ext {l m : List (Int × Int)} (hl : l.length = m.length) (h : ∀ i, i < l.length → rg l i = rg m i ∧ nm l i = nm m i) : l = m := by
 apply List.ext_getElem hl
 intro i h1 h2
 have := h i h1
 simp [rg, nm, List.getD, h1, h2] at this
 exact Prod.ext this.1 this.2

def lkTo (l : List (Int × Int)) : Nat → Int → Int
 | 0, _ => 0
 | k + 1, r => if rg l k = r then nm l k else lkTo l k r

def lk (l : List (Int × Int)) (r : Int) : Int := lkTo l l.length r

theorem lkTo_succ (l : List (Int × Int)) (k : Nat) (r : Int) : lkTo l (k + 1) r = if rg l k = r then nm l k else lkTo l k r := rfl

def lastR (l : List (Int × Int)) : Nat → Int
 | 0 => 0
 | k + 1 => rg l k

theorem vokAt_last {l : List (Int × Int)} {k : Nat} (hd : dotOk (rg l k) (nm l k) = true) (h : lastR l k < rg l k) : vokAt l k = true := by
 cases k with
 | zero => simp [vokAt, hd]
 | succ j => simp [vokAt, hd]; exact h

theorem vokAt_not {l : List (Int × Int)} {k : Nat} (hd : dotOk (rg l k) (nm l k) = true) (h : ¬ lastR l k < rg l k) : vokAt l k = false := by
 cases k with
 | zero => have := dotOk_true hd; simp [lastR] at h; omega
 | succ j => simp [vokAt, hd]; simpa [lastR] using h

end M1

namespace M1
def letB (c : UInt8) : Bool := decide (97 ≤ (c.toNat : Int)) && decide ((c.toNat : Int) ≤ 122)

def allB (s : ByteArray) : Bool := s.data.toList.all letB

def nameB (s : ByteArray) : Bool := (decide (1 ≤ s.size) && decide (s.size ≤ 12)) && allB s

theorem allB_yes {s : ByteArray} (h : ∀ j (hj : j < s.size), letB s[j] = true) : allB s = true := by
 unfold allB
 rw [List.all_eq_true]
 intro x hx
 obtain ⟨j, hj, rfl⟩ := List.mem_iff_getElem.1 hx
 have h2 : letB s.data[j] = true := h j (by simpa using hj)
 simpa using h2

theorem allB_no {s : ByteArray} {j : Nat} (hj : j < s.size) (h : letB s[j] = false) : allB s = false := by
 unfold allB
 rw [List.all_eq_false]
 refine ⟨s[j], ?_, by simp [h]⟩
 show s.data[j] ∈ _
 simp

def spanB (id parent : Int) (s : ByteArray) (start fin : Int) : Bool :=
 inB id 1 1000 && inB parent 0 1000 && (parent != id) && nameB s && inB start 0 1000000000 && inB fin start 1000000000

theorem spanB_eq (id parent : Int) (s : ByteArray) (start fin : Int) : spanB id parent s start fin =
  (inB id 1 1000 && inB parent 0 1000 && (parent != id) && nameB s && inB start 0 1000000000 && inB fin 0 1000000000 && decide (start ≤ fin)) := by
 unfold spanB
 generalize nameB s = b
 generalize (parent != id) = c
 rw [Bool.eq_iff_iff]
 cases b <;> cases c
 all_goals first | (simp [inB]; done) | (simp [inB]; omega)

end M1

namespace M1
def zeroB (id pa : Int) (s : ByteArray) (st en : Int) : Bool := decide (id = 0) && decide (pa = 0) && decide (s.toList = []) && decide (st = 0) && decide (en = 0)

def headB (dr dn sw sc sr tr : Int) : Bool := dotOk dr dn && stOk sw sc sr && decide (sr = dr) && inB tr 1 1000

def kindB (k id pa : Int) (s : ByteArray) (st en lv : Int) : Bool :=
 if k = 1 then spanB id pa s st en && (lv == 0)
 else if k = 2 then zeroB id pa s st en && (lv == 0)
 else if k = 3 then zeroB id pa s st en && inB lv 1 1000000
 else false

def updB (dr dn sw sc sr k tr id pa : Int) (s : ByteArray) (st en lv : Int) : Bool := headB dr dn sw sc sr tr && kindB k id pa s st en lv

end M1

namespace M1
structure Upd where
 dr : Int
 dn : Int
 sw : Int
 sc : Int
 sr : Int
 k : Int
 tr : Int
 id : Int
 pa : Int
 s : ByteArray
 st : Int
 en : Int
 lv : Int

def zeroU : Upd := ⟨0, 0, 0, 0, 0, 0, 0, 0, 0, ByteArray.empty, 0, 0, 0⟩

def up (us : List Upd) (i : Nat) : Upd := us.getD i zeroU

def okU (u : Upd) : Bool := updB u.dr u.dn u.sw u.sc u.sr u.k u.tr u.id u.pa u.s u.st u.en u.lv

def fol (a b : Upd) : Bool :=
 if b.dr = a.dr then decide (b.dn = a.dn + 1) && aheadB a.sw a.sc a.sr b.sw b.sc b.sr else decide (a.dr < b.dr) && decide (b.dn = 1)

def okAt (us : List Upd) (j : Nat) : Bool := okU (up us j) && (if j = 0 then decide ((up us j).dn = 1) else fol (up us (j - 1)) (up us j))

def setOk (us : List Upd) : Bool := decide (us.length ≤ 60) && (List.range us.length).all (okAt us)

theorem setOk_yes {l : List Upd} (h : ∀ j, j < l.length → okAt l j = true) : setOk l = decide (l.length ≤ 60) := by
 have : (List.range l.length).all (okAt l) = true := by simp; exact h
 unfold setOk; rw [this]; simp

theorem setOk_no {l : List Upd} {j : Nat} (hj : j < l.length) (h : okAt l j = false) : setOk l = false := by
 simp [setOk]; intro _; exact ⟨j, hj, h⟩

theorem setOk_all {l : List Upd} (h : setOk l = true) : ∀ j, j < l.length → okAt l j = true := by
 simp [setOk] at h; exact h.2

theorem setOk_len {l : List Upd} (h : setOk l = true) : l.length ≤ 60 := by
 simp [setOk] at h; exact h.1

theorem okAt_ok {l : List Upd} {j : Nat} (h : okAt l j = true) : okU (up l j) = true := by
 simp [okAt] at h; exact h.1

theorem upd_ext {u v : Upd} (h1 : u.dr = v.dr) (h2 : u.dn = v.dn) (h3 : u.sw = v.sw) (h4 : u.sc = v.sc) (h5 : u.sr = v.sr) (h6 : u.k = v.k) (h7 : u.tr = v.tr) (h8 : u.id = v.id) (h9 : u.pa = v.pa) (h10 : u.s = v.s) (h11 : u.st = v.st) (h12 : u.en = v.en) (h13 : u.lv = v.lv) : u = v := by
 cases u; cases v; simp at *; simp [*]

theorem okU_dot {u : Upd} (h : okU u = true) : 1 ≤ u.dr ∧ u.dr ≤ 5 ∧ 1 ≤ u.dn ∧ u.dn ≤ 1000000 := by
 simp [okU, updB, headB] at h
 exact dotOk_true h.1.1.1.1

def dahead (a b x y : Int) : Bool := decide (a < x) || (decide (a = x) && decide (b < y))

def cmpI (x y : Int) : Int := if x < y then -1 else if y < x then 1 else 0

def orI (x y : Int) : Int := if x = 0 then y else x

theorem dahead_cmp (a b x y : Int) : decide (orI (cmpI a x) (cmpI b y) < 0) = dahead a b x y := by
 unfold orI cmpI dahead
 by_cases h1 : a < x
 ·simp [h1]
 ·by_cases h2 : x < a
  ·have h3 : ¬ a = x := by omega
   simp [h1, h2, h3]
  ·have h3 : a = x := by omega
   by_cases h4 : b < y
   ·simp [h3, h4]
   ·by_cases h5 : y < b
    ·simp [h3, h4, h5]
    ·simp [h3, h4, h5]

end M1

namespace M1
def lastN (us : List Upd) : Nat → Int → Int
  | 0, _ => 0
  | k + 1, r => if (up us k).dr = r then (up us k).dn else lastN us k r

theorem lastN_succ (us : List Upd) (k : Nat) (r : Int) : lastN us (k + 1) r = if (up us k).dr = r then (up us k).dn else lastN us k r := rfl

theorem lastN_none {us : List Upd} {r : Int} : ∀ k, (∀ j, j < k → ¬ (up us j).dr = r) → lastN us k r = 0
  | 0, _ => rfl
  | k + 1, h => by rw [lastN_succ, if_neg (h k (by omega))]; exact lastN_none k (fun j hj => h j (by omega))

theorem fol_le {a b : Upd} (h : fol a b = true) : a.dr ≤ b.dr := by
  unfold fol at h
  by_cases e : b.dr = a.dr
  · omega
  · rw [if_neg e] at h
    simp at h; omega

theorem ok_step {us : List Upd} {j : Nat} (h : okAt us (j + 1) = true) : (up us j).dr ≤ (up us (j + 1)).dr := by
  unfold okAt at h
  simp at h
  exact fol_le h.2

theorem ok_mono {us : List Upd} (h : ∀ j, j < us.length → okAt us j = true) {i : Nat} : ∀ j, i ≤ j → j < us.length → (up us i).dr ≤ (up us j).dr
  | 0, hij, _ => by have : i = 0 := by omega
                    rw [this]; exact Int.le_refl _
  | j + 1, hij, hj => by
    by_cases e : i = j + 1
    · rw [e]; exact Int.le_refl _
    · have h1 := ok_mono h (i := i) j (by omega) (by omega)
      have h2 := ok_step (h (j + 1) hj)
      omega

theorem ok_rg {us : List Upd} (h : ∀ j, j < us.length → okAt us j = true) {j : Nat} (hj : j < us.length) : 1 ≤ (up us j).dr ∧ (up us j).dr ≤ 5 ∧ 1 ≤ (up us j).dn ∧ (up us j).dn ≤ 1000000 := okU_dot (okAt_ok (h j hj))

end M1
