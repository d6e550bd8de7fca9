/-
  Texts of one proof, joined: Math3, Math4, Math5, Math14a, Math6.
-/
import Derived.Test.YtccendmoeelniaaGreatDoorZReceived02
import Derived.Test.YtccendmoeelniaaGreatDoorZReceived04
namespace M1

/-- A small letter. -/
def letB (c : UInt8) : Bool := decide (97 ≤ (c.toNat : Int)) && decide ((c.toNat : Int) ≤ 122)
def allB (s : ByteArray) : Bool := s.data.toList.all letB
def nameB (s : ByteArray) : Bool := (decide (1 ≤ s.size) && decide (s.size ≤ 12)) && allB s

theorem allB_yes {s : ByteArray} (h : ∀ j (hj : j < s.size), letB s[j] = true) : allB s = true := by
  unfold allB
  rw [List.all_eq_true]
  intro x hx
  obtain ⟨j, hj, rfl⟩ := List.mem_iff_getElem.1 hx
  have h2 : letB s.data[j] = true := h j (by simpa using hj)
  simpa using h2
theorem allB_no {s : ByteArray} {j : Nat} (hj : j < s.size) (h : letB s[j] = false) : allB s = false := by
  unfold allB
  rw [List.all_eq_false]
  refine ⟨s[j], ?_, by simp [h]⟩
  show s.data[j] ∈ _
  simp
def spanB (id parent : Int) (s : ByteArray) (start fin : Int) : Bool :=
  inB id 1 1000 && inB parent 0 1000 && (parent != id) && nameB s && inB start 0 1000000000 && inB fin start 1000000000
theorem spanB_eq (id parent : Int) (s : ByteArray) (start fin : Int) : spanB id parent s start fin =
    (inB id 1 1000 && inB parent 0 1000 && (parent != id) && nameB s && inB start 0 1000000000 && inB fin 0 1000000000 && decide (start ≤ fin)) := by
  unfold spanB
  generalize nameB s = b
  generalize (parent != id) = c
  rw [Bool.eq_iff_iff]
  cases b <;> cases c
  all_goals first | (simp [inB]; done) | (simp [inB]; omega)
end M1

namespace M1

/-- A span that is zero. -/
def zeroB (id pa : Int) (s : ByteArray) (st en : Int) : Bool := decide (id = 0) && decide (pa = 0) && decide (s.toList = []) && decide (st = 0) && decide (en = 0)
def headB (dr dn sw sc sr tr : Int) : Bool := dotOk dr dn && stOk sw sc sr && decide (sr = dr) && inB tr 1 1000
def kindB (k id pa : Int) (s : ByteArray) (st en lv : Int) : Bool :=
  if k = 1 then spanB id pa s st en && (lv == 0)
  else if k = 2 then zeroB id pa s st en && (lv == 0)
  else if k = 3 then zeroB id pa s st en && inB lv 1 1000000
  else false
def updB (dr dn sw sc sr k tr id pa : Int) (s : ByteArray) (st en lv : Int) : Bool := headB dr dn sw sc sr tr && kindB k id pa s st en lv
end M1

namespace M1

structure Upd where
  dr : Int
  dn : Int
  sw : Int
  sc : Int
  sr : Int
  k : Int
  tr : Int
  id : Int
  pa : Int
  s : ByteArray
  st : Int
  en : Int
  lv : Int

def zeroU : Upd := ⟨0, 0, 0, 0, 0, 0, 0, 0, 0, ByteArray.empty, 0, 0, 0⟩
/-- The i-th update. -/
def up (us : List Upd) (i : Nat) : Upd := us.getD i zeroU
def okU (u : Upd) : Bool := updB u.dr u.dn u.sw u.sc u.sr u.k u.tr u.id u.pa u.s u.st u.en u.lv

/-- May b stand just behind a? -/
def fol (a b : Upd) : Bool :=
  if b.dr = a.dr then decide (b.dn = a.dn + 1) && aheadB a.sw a.sc a.sr b.sw b.sc b.sr else decide (a.dr < b.dr) && decide (b.dn = 1)
def okAt (us : List Upd) (j : Nat) : Bool := okU (up us j) && (if j = 0 then decide ((up us j).dn = 1) else fol (up us (j - 1)) (up us j))
def setOk (us : List Upd) : Bool := decide (us.length ≤ 60) && (List.range us.length).all (okAt us)

theorem setOk_yes {l : List Upd} (h : ∀ j, j < l.length → okAt l j = true) : setOk l = decide (l.length ≤ 60) := by
  have : (List.range l.length).all (okAt l) = true := by simp; exact h
  unfold setOk; rw [this]; simp
theorem setOk_no {l : List Upd} {j : Nat} (hj : j < l.length) (h : okAt l j = false) : setOk l = false := by
  simp [setOk]; intro _; exact ⟨j, hj, h⟩
theorem setOk_all {l : List Upd} (h : setOk l = true) : ∀ j, j < l.length → okAt l j = true := by
  simp [setOk] at h; exact h.2
theorem setOk_len {l : List Upd} (h : setOk l = true) : l.length ≤ 60 := by
  simp [setOk] at h; exact h.1
theorem okAt_ok {l : List Upd} {j : Nat} (h : okAt l j = true) : okU (up l j) = true := by
  simp [okAt] at h; exact h.1

theorem upd_ext {u v : Upd} (h1 : u.dr = v.dr) (h2 : u.dn = v.dn) (h3 : u.sw = v.sw) (h4 : u.sc = v.sc) (h5 : u.sr = v.sr) (h6 : u.k = v.k) (h7 : u.tr = v.tr) (h8 : u.id = v.id) (h9 : u.pa = v.pa) (h10 : u.s = v.s) (h11 : u.st = v.st) (h12 : u.en = v.en) (h13 : u.lv = v.lv) : u = v := by
  cases u; cases v; simp at *; simp [*]

theorem okU_dot {u : Upd} (h : okU u = true) : 1 ≤ u.dr ∧ u.dr ≤ 5 ∧ 1 ≤ u.dn ∧ u.dn ≤ 1000000 := by
  simp [okU, updB, headB] at h
  exact dotOk_true h.1.1.1.1

/-- Is a dot ahead of another one? -/
def dahead (a b x y : Int) : Bool := decide (a < x) || (decide (a = x) && decide (b < y))
def cmpI (x y : Int) : Int := if x < y then -1 else if y < x then 1 else 0
def orI (x y : Int) : Int := if x = 0 then y else x
theorem dahead_cmp (a b x y : Int) : decide (orI (cmpI a x) (cmpI b y) < 0) = dahead a b x y := by
  unfold orI cmpI dahead
  by_cases h1 : a < x
  · simp [h1]
  · by_cases h2 : x < a
    · have h3 : ¬ a = x := by omega
      simp [h1, h2, h3]
    · have h3 : a = x := by omega
      by_cases h4 : b < y
      · simp [h3, h4]
      · by_cases h5 : y < b
        · simp [h3, h4, h5]
        · simp [h3, h4, h5]
end M1

namespace M1
def allR (ys : List Upd) : Bool := (List.range ys.length).all fun j => okU (up ys j)
theorem allR_yes {ys : List Upd} (h : ∀ j, j < ys.length → okU (up ys j) = true) : allR ys = true := by simp [allR]; exact h
theorem allR_no {ys : List Upd} {j : Nat} (hj : j < ys.length) (h : okU (up ys j) = false) : allR ys = false := by simp [allR]; exact ⟨j, hj, h⟩
theorem allR_all {ys : List Upd} (h : allR ys = true) : ∀ j, j < ys.length → okU (up ys j) = true := by simp [allR] at h; exact h
end M1

namespace M1

theorem rg_app {l : List (Int × Int)} {d : Int × Int} {i : Nat} (h : i < l.length) : rg (l ++ [d]) i = rg l i ∧ nm (l ++ [d]) i = nm l i := by
  simp [rg, nm, List.getD, List.getElem?_append_left h]
theorem rg_last (l : List (Int × Int)) (d : Int × Int) : rg (l ++ [d]) l.length = d.1 ∧ nm (l ++ [d]) l.length = d.2 := by
  simp [rg, nm, List.getD]
theorem lkTo_app {l : List (Int × Int)} {d : Int × Int} {r : Int} : ∀ k, k ≤ l.length → lkTo (l ++ [d]) k r = lkTo l k r
  | 0, _ => rfl
  | k + 1, h => by
    have := rg_app (d := d) (show k < l.length by omega)
    rw [lkTo_succ, lkTo_succ, this.1, this.2, lkTo_app k (by omega)]
theorem lk_snoc (l : List (Int × Int)) (d : Int × Int) (r : Int) : lk (l ++ [d]) r = if d.1 = r then d.2 else lk l r := by
  unfold lk
  rw [show (l ++ [d]).length = l.length + 1 from by simp, lkTo_succ, (rg_last l d).1, (rg_last l d).2, lkTo_app _ (Nat.le_refl _)]
theorem lk_dlTo (f : Int → Int) : ∀ (k : Nat) (r : Int), lk (dlTo f k) r = if 1 ≤ r ∧ r ≤ k ∧ 0 < f r then f r else 0
  | 0, r => by rw [if_neg (by omega)]; rfl
  | k + 1, r => by
    by_cases h : 0 < f (k + 1)
    · rw [dlTo_yes h, lk_snoc, lk_dlTo f k r]
      by_cases e : ((k : Int) + 1) = r
      · subst e; rw [if_pos rfl, if_pos ⟨by omega, by omega, h⟩]
      · rw [if_neg e]
        by_cases q : 1 ≤ r ∧ r ≤ k ∧ 0 < f r
        · rw [if_pos q, if_pos ⟨q.1, by omega, q.2.2⟩]
        · rw [if_neg q, if_neg (fun q2 => q ⟨q2.1, by omega, q2.2.2⟩)]
    · rw [dlTo_no h, lk_dlTo f k r]
      by_cases q : 1 ≤ r ∧ r ≤ k ∧ 0 < f r
      · rw [if_pos q, if_pos ⟨q.1, by omega, q.2.2⟩]
      · rw [if_neg q, if_neg (fun q2 => q ⟨q2.1, by
          have : r ≠ (k : Int) + 1 := fun e => h (by rw [← e]; exact q2.2.2)
          omega, q2.2.2⟩)]
theorem vecOk_snoc {l : List (Int × Int)} {d : Int × Int} (h : vecOk l = true) (hd : dotOk d.1 d.2 = true) (hr : ∀ j, j < l.length → rg l j < d.1) : vecOk (l ++ [d]) = true := by
  refine vecOk_yes fun j hj => ?_
  simp at hj
  by_cases e : j = l.length
  · subst e
    unfold vokAt
    rw [(rg_last l d).1, (rg_last l d).2, hd]
    by_cases e0 : l.length = 0
    · simp [e0]
    · have h1 := hr (l.length - 1) (by omega)
      rw [(rg_app (d := d) (show l.length - 1 < l.length by omega)).1]
      simp [h1]
  · have hj' : j < l.length := by omega
    have h1 := vecOk_all h j hj'
    unfold vokAt at h1 ⊢
    rw [(rg_app (d := d) hj').1, (rg_app (d := d) hj').2]
    by_cases e0 : j = 0
    · subst e0; simpa using h1
    · rw [(rg_app (d := d) (show j - 1 < l.length by omega)).1]; exact h1
theorem dlTo_rg (f : Int → Int) : ∀ (k : Nat) (j : Nat), j < (dlTo f k).length → rg (dlTo f k) j ≤ k
  | 0, j, h => by simp [dlTo] at h
  | k + 1, j, h => by
    by_cases q : 0 < f (k + 1)
    · rw [dlTo_yes q] at h ⊢
      simp at h
      by_cases e : j = (dlTo f k).length
      · rw [e, (rg_last _ _).1]; simp
      · rw [(rg_app (by omega)).1]; have := dlTo_rg f k j (by omega); omega
    · rw [dlTo_no q] at h ⊢
      have := dlTo_rg f k j h; omega
theorem dlTo_ok {f : Int → Int} (hf : ∀ r : Int, f r ≤ 1000000) : ∀ k : Nat, k ≤ 5 → vecOk (dlTo f k) = true
  | 0, _ => rfl
  | k + 1, h => by
    by_cases q : 0 < f (k + 1)
    · rw [dlTo_yes q]
      refine vecOk_snoc (dlTo_ok hf k (by omega)) ?_ (fun j hj => by have := dlTo_rg f k j hj; show _ < (k : Int) + 1; omega)
      have := hf ((k : Int) + 1)
      simp [dotOk, inB]; omega
    · rw [dlTo_no q]; exact dlTo_ok hf k (by omega)

theorem joinL_eq {a b : List (Int × Int)} (ha : vecOk a = true) (hb : vecOk b = true) : joinL a b = dlTo (fun r => max (lk a r) (lk b r)) 5 := by
  unfold joinL; rw [if_pos ⟨ha, hb⟩]
theorem joinL_ok {a b : List (Int × Int)} (ha : vecOk a = true) (hb : vecOk b = true) : vecOk (joinL a b) = true := by
  rw [joinL_eq ha hb]
  exact dlTo_ok (fun r => by have h1 := lk_bd ha r; have h2 := lk_bd hb r; show max (lk a r) (lk b r) ≤ _; omega) 5 (by omega)
theorem joinL_lk {a b : List (Int × Int)} (ha : vecOk a = true) (hb : vecOk b = true) (r : Int) : lk (joinL a b) r = max (lk a r) (lk b r) := by
  rw [joinL_eq ha hb, lk_dlTo]
  have h1 := lk_bd ha r
  have h2 := lk_bd hb r
  by_cases q : 1 ≤ r ∧ r ≤ ((5 : Nat) : Int) ∧ 0 < max (lk a r) (lk b r)
  · rw [if_pos q]
  · rw [if_neg q]
    by_cases hr : 1 ≤ r ∧ r ≤ 5
    · have : ¬ 0 < max (lk a r) (lk b r) := fun h => q ⟨hr.1, by have := hr.2; omega, h⟩
      omega
    · rw [lk_out ha (by omega), lk_out hb (by omega)]; rfl
theorem joinL_comm (a b : List (Int × Int)) : joinL b a = joinL a b := by
  unfold joinL
  by_cases h : vecOk a = true ∧ vecOk b = true
  · rw [if_pos h, if_pos h.symm]
    exact dlTo_congr 5 (fun r _ _ => by omega)
  · rw [if_neg h, if_neg (fun k => h k.symm)]
theorem joinL_again {a b : List (Int × Int)} (ha : vecOk a = true) (hb : vecOk b = true) : joinL (joinL a b) a = joinL a b := by
  rw [joinL_eq (joinL_ok ha hb) ha]
  conv => rhs; rw [joinL_eq ha hb]
  exact dlTo_congr 5 (fun r _ _ => by rw [joinL_lk ha hb]; omega)
theorem joinL_assoc {a b c : List (Int × Int)} (ha : vecOk a = true) (hb : vecOk b = true) (hc : vecOk c = true) : joinL (joinL a b) c = joinL a (joinL b c) := by
  rw [joinL_eq (joinL_ok ha hb) hc, joinL_eq ha (joinL_ok hb hc)]
  exact dlTo_congr 5 (fun r _ _ => by rw [joinL_lk ha hb, joinL_lk hb hc]; omega)
theorem cov_join {a b : List (Int × Int)} (ha : vecOk a = true) (hb : vecOk b = true) : covB (joinL a b) a = true ∧ covB (joinL a b) b = true := by
  constructor
  · rw [cov_iff (joinL_ok ha hb) ha]; intro r _ _; rw [joinL_lk ha hb]; omega
  · rw [cov_iff (joinL_ok ha hb) hb]; intro r _ _; rw [joinL_lk ha hb]; omega
theorem cov_both {a b c : List (Int × Int)} (ha : vecOk a = true) (hb : vecOk b = true) (hc : vecOk c = true) : covB c (joinL a b) = (covB c a && covB c b) := by
  rw [Bool.eq_iff_iff, Bool.and_eq_true, cov_iff hc (joinL_ok ha hb), cov_iff hc ha, cov_iff hc hb]
  constructor
  · intro h
    exact ⟨fun r h1 h2 => by have := h r h1 h2; rw [joinL_lk ha hb] at this; omega, fun r h1 h2 => by have := h r h1 h2; rw [joinL_lk ha hb] at this; omega⟩
  · intro ⟨h1, h2⟩ r h3 h4
    have a1 := h1 r h3 h4
    have a2 := h2 r h3 h4
    rw [joinL_lk ha hb]; omega
end M1
