/-
  Plain mathematics of sets of updates (no program).
-/
import Derived.Test.YtjgcjopijblpkaaDoorMath4
namespace M1

structure Upd where
  dr : Int
  dn : Int
  sw : Int
  sc : Int
  sr : Int
  k : Int
  tr : Int
  id : Int
  pa : Int
  s : ByteArray
  st : Int
  en : Int
  lv : Int

def zeroU : Upd := ⟨0, 0, 0, 0, 0, 0, 0, 0, 0, ByteArray.empty, 0, 0, 0⟩
/-- The i-th update. -/
def up (us : List Upd) (i : Nat) : Upd := us.getD i zeroU
def okU (u : Upd) : Bool := updB u.dr u.dn u.sw u.sc u.sr u.k u.tr u.id u.pa u.s u.st u.en u.lv

/-- May b stand just behind a? -/
def fol (a b : Upd) : Bool :=
  if b.dr = a.dr then decide (b.dn = a.dn + 1) && aheadB a.sw a.sc a.sr b.sw b.sc b.sr else decide (a.dr < b.dr) && decide (b.dn = 1)
def okAt (us : List Upd) (j : Nat) : Bool := okU (up us j) && (if j = 0 then decide ((up us j).dn = 1) else fol (up us (j - 1)) (up us j))
def setOk (us : List Upd) : Bool := decide (us.length ≤ 60) && (List.range us.length).all (okAt us)

theorem setOk_yes {l : List Upd} (h : ∀ j, j < l.length → okAt l j = true) : setOk l = decide (l.length ≤ 60) := by
  have : (List.range l.length).all (okAt l) = true := by simp; exact h
  unfold setOk; rw [this]; simp
theorem setOk_no {l : List Upd} {j : Nat} (hj : j < l.length) (h : okAt l j = false) : setOk l = false := by
  simp [setOk]; intro _; exact ⟨j, hj, h⟩
theorem setOk_all {l : List Upd} (h : setOk l = true) : ∀ j, j < l.length → okAt l j = true := by
  simp [setOk] at h; exact h.2
theorem setOk_len {l : List Upd} (h : setOk l = true) : l.length ≤ 60 := by
  simp [setOk] at h; exact h.1
theorem okAt_ok {l : List Upd} {j : Nat} (h : okAt l j = true) : okU (up l j) = true := by
  simp [okAt] at h; exact h.1

theorem upd_ext {u v : Upd} (h1 : u.dr = v.dr) (h2 : u.dn = v.dn) (h3 : u.sw = v.sw) (h4 : u.sc = v.sc) (h5 : u.sr = v.sr) (h6 : u.k = v.k) (h7 : u.tr = v.tr) (h8 : u.id = v.id) (h9 : u.pa = v.pa) (h10 : u.s = v.s) (h11 : u.st = v.st) (h12 : u.en = v.en) (h13 : u.lv = v.lv) : u = v := by
  cases u; cases v; simp at *; simp [*]

theorem okU_dot {u : Upd} (h : okU u = true) : 1 ≤ u.dr ∧ u.dr ≤ 5 ∧ 1 ≤ u.dn ∧ u.dn ≤ 1000000 := by
  simp [okU, updB, headB] at h
  exact dotOk_true h.1.1.1.1

/-- Is a dot ahead of another one? -/
def dahead (a b x y : Int) : Bool := decide (a < x) || (decide (a = x) && decide (b < y))
def cmpI (x y : Int) : Int := if x < y then -1 else if y < x then 1 else 0
def orI (x y : Int) : Int := if x = 0 then y else x
theorem dahead_cmp (a b x y : Int) : decide (orI (cmpI a x) (cmpI b y) < 0) = dahead a b x y := by
  unfold orI cmpI dahead
  by_cases h1 : a < x
  · simp [h1]
  · by_cases h2 : x < a
    · have h3 : ¬ a = x := by omega
      simp [h1, h2, h3]
    · have h3 : a = x := by omega
      by_cases h4 : b < y
      · simp [h3, h4]
      · by_cases h5 : y < b
        · simp [h3, h4, h5]
        · simp [h3, h4, h5]
end M1
