/-
  Texts of one proof, joined: Math2.
-/
import Derived.Test.YtccendmoeelniaaGreatDoorZReceived02
namespace M1

/-- The i-th dot's region; its number. -/
def rg (l : List (Int × Int)) (i : Nat) : Int := (l.getD i (0, 0)).1
def nm (l : List (Int × Int)) (i : Nat) : Int := (l.getD i (0, 0)).2

def dotOk (a b : Int) : Bool := inB a 1 5 && inB b 1 1000000

theorem dotOk_true {a b : Int} (h : dotOk a b = true) : 1 ≤ a ∧ a ≤ 5 ∧ 1 ≤ b ∧ b ≤ 1000000 := by
  simp [dotOk, inB] at h; omega

/-- Two dots are one. -/
def eqd (a b x y : Int) : Bool := decide (a = x) && decide (b = y)

/-- The dot at place i is right, and rises above the one ahead of it. -/
def vokAt (l : List (Int × Int)) (i : Nat) : Bool := dotOk (rg l i) (nm l i) && (decide (i = 0) || decide (rg l (i - 1) < rg l i))

def vecOk (l : List (Int × Int)) : Bool := (List.range l.length).all (vokAt l)

theorem vecOk_yes {l : List (Int × Int)} (h : ∀ j, j < l.length → vokAt l j = true) : vecOk l = true := by
  simp [vecOk]; exact h
theorem vecOk_no {l : List (Int × Int)} {j : Nat} (hj : j < l.length) (h : vokAt l j = false) : vecOk l = false := by
  simp [vecOk]; exact ⟨j, hj, h⟩
theorem vecOk_all {l : List (Int × Int)} (h : vecOk l = true) : ∀ j, j < l.length → vokAt l j = true := by
  simpa [vecOk] using h

theorem list_ext {l m : List (Int × Int)} (hl : l.length = m.length) (h : ∀ i, i < l.length → rg l i = rg m i ∧ nm l i = nm m i) : l = m := by
  apply List.ext_getElem hl
  intro i h1 h2
  have := h i h1
  simp [rg, nm, List.getD, h1, h2] at this
  exact Prod.ext this.1 this.2

/-- The number of region r in the first k dots, the last one told (0: none). -/
def lkTo (l : List (Int × Int)) : Nat → Int → Int
  | 0, _ => 0
  | k + 1, r => if rg l k = r then nm l k else lkTo l k r
def lk (l : List (Int × Int)) (r : Int) : Int := lkTo l l.length r

theorem lkTo_succ (l : List (Int × Int)) (k : Nat) (r : Int) : lkTo l (k + 1) r = if rg l k = r then nm l k else lkTo l k r := rfl

/-- The region ahead of place k; 0 at the head. -/
def lastR (l : List (Int × Int)) : Nat → Int
  | 0 => 0
  | k + 1 => rg l k

theorem vokAt_last {l : List (Int × Int)} {k : Nat} (hd : dotOk (rg l k) (nm l k) = true) (h : lastR l k < rg l k) : vokAt l k = true := by
  cases k with
  | zero => simp [vokAt, hd]
  | succ j => simp [vokAt, hd]; exact h
theorem vokAt_not {l : List (Int × Int)} {k : Nat} (hd : dotOk (rg l k) (nm l k) = true) (h : ¬ lastR l k < rg l k) : vokAt l k = false := by
  cases k with
  | zero => have := dotOk_true hd; simp [lastR] at h; omega
  | succ j => simp [vokAt, hd]; simpa [lastR] using h

theorem vok_dot {l : List (Int × Int)} {j : Nat} (h : vokAt l j = true) : dotOk (rg l j) (nm l j) = true := by
  simp [vokAt] at h; exact h.1
theorem vok_step {l : List (Int × Int)} {j : Nat} (h : vokAt l (j + 1) = true) : rg l j < rg l (j + 1) := by
  simp [vokAt] at h; exact h.2
theorem vok_rise {l : List (Int × Int)} (h : vecOk l = true) {i : Nat} : ∀ j, i < j → j < l.length → rg l i < rg l j
  | 0, hij, _ => absurd hij (Nat.not_lt_zero _)
  | j + 1, hij, hj => by
    have hs := vok_step (vecOk_all h (j + 1) hj)
    by_cases e : i = j
    · rw [e]; exact hs
    · exact Int.lt_trans (vok_rise h j (by omega) (by omega)) hs
theorem lkTo_none {l : List (Int × Int)} {r : Int} : ∀ k, (∀ j, j < k → ¬ rg l j = r) → lkTo l k r = 0
  | 0, _ => rfl
  | k + 1, h => by rw [lkTo_succ, if_neg (h k (by omega))]; exact lkTo_none k (fun j hj => h j (by omega))
theorem lkTo_at {l : List (Int × Int)} (h : vecOk l = true) {j : Nat} : ∀ k, j < k → k ≤ l.length → lkTo l k (rg l j) = nm l j
  | 0, hj, _ => absurd hj (Nat.not_lt_zero _)
  | k + 1, hj, hk => by
    rw [lkTo_succ]
    by_cases e : j = k
    · rw [e, if_pos rfl]
    · have := vok_rise h k (i := j) (by omega) (by omega)
      rw [if_neg (by omega)]; exact lkTo_at h k (by omega) (by omega)
theorem lk_at {l : List (Int × Int)} (h : vecOk l = true) {j : Nat} (hj : j < l.length) : lk l (rg l j) = nm l j := lkTo_at h _ hj (Nat.le_refl _)
theorem lk_none {l : List (Int × Int)} {r : Int} (h : ∀ j, j < l.length → ¬ rg l j = r) : lk l r = 0 := lkTo_none _ h
theorem lk_some_or (l : List (Int × Int)) (r : Int) : (∀ j, j < l.length → ¬ rg l j = r) ∨ ∃ j, j < l.length ∧ rg l j = r := by
  by_cases h : ∃ j, j < l.length ∧ rg l j = r
  · exact Or.inr h
  · exact Or.inl fun j hj e => h ⟨j, hj, e⟩
theorem lk_bd {l : List (Int × Int)} (h : vecOk l = true) (r : Int) : 0 ≤ lk l r ∧ lk l r ≤ 1000000 := by
  rcases lk_some_or l r with hn | ⟨j, hj, e⟩
  · rw [lk_none hn]; omega
  · rw [← e, lk_at h hj]; have := dotOk_true (vok_dot (vecOk_all h j hj)); omega
theorem lk_out {l : List (Int × Int)} (h : vecOk l = true) {r : Int} (hr : r < 1 ∨ 5 < r) : lk l r = 0 := by
  rcases lk_some_or l r with hn | ⟨j, hj, e⟩
  · exact lk_none hn
  · have := dotOk_true (vok_dot (vecOk_all h j hj)); omega

/-- a has no less of any region than b. -/
def covB (a b : List (Int × Int)) : Bool := (List.range b.length).all fun j => decide (nm b j ≤ lk a (rg b j))
theorem cov_yes {a b : List (Int × Int)} (h : ∀ j, j < b.length → nm b j ≤ lk a (rg b j)) : covB a b = true := by
  simp [covB]; exact h
theorem cov_no {a b : List (Int × Int)} {j : Nat} (hj : j < b.length) (h : lk a (rg b j) < nm b j) : covB a b = false := by
  simp [covB]; exact ⟨j, hj, by omega⟩
theorem cov_all {a b : List (Int × Int)} (h : covB a b = true) : ∀ j, j < b.length → nm b j ≤ lk a (rg b j) := by
  simpa [covB] using h
theorem cov_iff {a b : List (Int × Int)} (ha : vecOk a = true) (hb : vecOk b = true) : covB a b = true ↔ ∀ r : Int, 1 ≤ r → r ≤ 5 → lk b r ≤ lk a r := by
  constructor
  · intro h r _ _
    rcases lk_some_or b r with hn | ⟨j, hj, e⟩
    · rw [lk_none hn]; exact (lk_bd ha r).1
    · rw [← e, lk_at hb hj]; exact cov_all h j hj
  · intro h
    refine cov_yes fun j hj => ?_
    have hd := dotOk_true (vok_dot (vecOk_all hb j hj))
    have := h (rg b j) (by omega) (by omega)
    rwa [lk_at hb hj] at this

/-- The dots of the regions 1 .. k that have a number above 0. -/
def dlTo (f : Int → Int) : Nat → List (Int × Int)
  | 0 => []
  | k + 1 => dlTo f k ++ (if 0 < f (k + 1) then [((k : Int) + 1, f (k + 1))] else [])
theorem dlTo_yes {f : Int → Int} {k : Nat} (h : 0 < f (k + 1)) : dlTo f (k + 1) = dlTo f k ++ [((k : Int) + 1, f (k + 1))] := by simp [dlTo, h]
theorem dlTo_no {f : Int → Int} {k : Nat} (h : ¬ 0 < f (k + 1)) : dlTo f (k + 1) = dlTo f k := by simp [dlTo, h]
theorem dlTo_len (f : Int → Int) : ∀ k, (dlTo f k).length ≤ k
  | 0 => by simp [dlTo]
  | k + 1 => by
    have := dlTo_len f k
    by_cases h : 0 < f (k + 1)
    · rw [dlTo_yes h]; simp; omega
    · rw [dlTo_no h]; omega
theorem dlTo_congr {f g : Int → Int} : ∀ k : Nat, (∀ r : Int, 1 ≤ r → r ≤ k → f r = g r) → dlTo f k = dlTo g k
  | 0, _ => rfl
  | k + 1, h => by
    have e := h (k + 1) (by omega) (by omega)
    simp only [dlTo, e, dlTo_congr k (fun r h1 h2 => h r h1 (by omega))]
/-- Two vectors joined. -/
def joinL (a b : List (Int × Int)) : List (Int × Int) := if vecOk a = true ∧ vecOk b = true then dlTo (fun r => max (lk a r) (lk b r)) 5 else []
theorem joinL_len (a b : List (Int × Int)) : (joinL a b).length ≤ 5 := by
  unfold joinL; split
  · exact dlTo_len _ 5
  · simp

theorem dl_step (f : Int → Int) (k : Nat) (r : Int) (hr : (k : Int) + 1 = r) (h : 0 < f r) : dlTo f (k + 1) = dlTo f k ++ [(r, f r)] := by subst hr; exact dlTo_yes h
theorem dl_stay (f : Int → Int) (k : Nat) (r : Int) (hr : (k : Int) + 1 = r) (h : ¬ 0 < f r) : dlTo f (k + 1) = dlTo f k := by subst hr; exact dlTo_no h
end M1
