/-
  Plain mathematics of chapter 1 (no program): bounds, stamps, what a clock's tick and a meeting come to.
-/
namespace M1

def inB (n lo hi : Int) : Bool := decide (lo ≤ n) && decide (n ≤ hi)

theorem inB_true {n lo hi : Int} (h : inB n lo hi = true) : lo ≤ n ∧ n ≤ hi := by
  simpa [inB] using h
theorem inB_mk {n lo hi : Int} (h1 : lo ≤ n) (h2 : n ≤ hi) : inB n lo hi = true := by
  simp [inB, h1, h2]

def stOk (a b c : Int) : Bool := inB a 0 1000000000 && inB b 0 1000000 && inB c 1 5

theorem stOk_true {a b c : Int} (h : stOk a b c = true) : 0 ≤ a ∧ a ≤ 1000000000 ∧ 0 ≤ b ∧ b ≤ 1000000 ∧ 1 ≤ c ∧ c ≤ 5 := by
  simp [stOk, inB] at h; omega
theorem stOk_mk {a b c : Int} (h : 0 ≤ a ∧ a ≤ 1000000000 ∧ 0 ≤ b ∧ b ≤ 1000000 ∧ 1 ≤ c ∧ c ≤ 5) : stOk a b c = true := by
  simp [stOk, inB]; omega

def aheadB (a b c x y z : Int) : Bool :=
  if a = x then (if b = y then decide (c < z) else decide (b < y)) else decide (a < x)

structure St where
  a : Int
  b : Int
  c : Int
  ok : Bool

def nextP (a b c now : Int) : St :=
  if a < now then ⟨now, 0, c, true⟩ else if b = 1000000 then ⟨0, 0, 0, false⟩ else ⟨a, b + 1, c, true⟩

def tickP (a b c now : Int) : St :=
  if stOk a b c = true ∧ inB now 0 1000000000 = true then nextP a b c now else ⟨0, 0, 0, false⟩

def overB (a b x y : Int) : Bool := decide (a < x) || (decide (x = a) && decide (b < y))

def metP (a b c x y z now : Int) : St :=
  if stOk a b c = true ∧ stOk x y z = true ∧ inB now 0 1000000000 = true then
    (if overB a b x y = true then nextP x y c now else nextP a b c now) else ⟨0, 0, 0, false⟩

end M1
