/-
  Texts of one proof, joined: Vec1, Math3, Math4, Math5.
-/
import Derived.Test.YtdpeopmbboogaaaZForest03
import Derived.Deep.RegionHeld3
import Derived.Deep.DrawnRows
import Derived.Deep.DeepCutAuto
import Derived.Deep.LoopGhost
namespace Go.Proofs.Ytdpeopmbboogaaa
open Go.ChangeShapes Go.WideShapes Go.ChangeAt Go.RowKit

/-- A slice of dots: its elements are ds, two cells each. -/
structure IsVec (w : World) (av : Option Addr) (len cap : Nat) (ds : List (Int × Int)) : Prop where
  hlen : ds.length = len
  hcap : len ≤ cap
  hmost : cap ≤ maxLen
  hlies : len = 0 ∨ ∃ b off, av = some ⟨b, off, none⟩ ∧ b < w.heap.size ∧ ∀ i, i < len → w.cell? ⟨b, off + i * 2, none⟩ = some (.int .i64 (M1.rg ds i)) ∧ w.cell? ⟨b, off + i * 2 + 1, none⟩ = some (.int .i64 (M1.nm ds i))

theorem IsVec.below {w w' : World} {av : Option Addr} {len cap : Nat} {ds : List (Int × Int)} (h : IsVec w av len cap ds) (hb : Below w.heap.size w w') : IsVec w' av len cap ds :=
  ⟨h.hlen, h.hcap, h.hmost, h.hlies.imp id fun ⟨b, off, e, hlt, hc⟩ => ⟨b, off, e, Nat.lt_of_lt_of_le hlt hb.size, fun i hi => ⟨(hb.cell (p := ⟨b, off + i * 2, none⟩) hlt).trans (hc i hi).1, (hb.cell (p := ⟨b, off + i * 2 + 1, none⟩) hlt).trans (hc i hi).2⟩⟩⟩

theorem l1Dot_any (a b : Int) (w : World) :
    Calls Try.prog 61 #[.agg #[.int .i64 a, .int .i64 b]] w fun e w' => e = .returned (.bool (M1.dotOk a b)) ∧ Below w.heap.size w w' := by
  unfold M1.dotOk
  go_enter Try.func61, Try.ntmps61
  go_wp2_with ((go_at_call 63; refine (l1In_any _ _ _ _).mono ?_; rintro e w' ⟨rfl, rfl⟩))
  all_goals (go_ret)
  all_goals (exact ⟨by simp [*], (Below.refl _ _).alloc (Nat.le_refl _) _⟩)

theorem dotOk_any (a b : Int) (w : World) :
    Calls Try.prog 88 #[.agg #[.int .i64 a, .int .i64 b]] w fun e w' => e = .returned (.bool (M1.dotOk a b)) ∧ Below w.heap.size w w' := by
  unfold M1.dotOk
  go_enter Try.func88, Try.ntmps88
  go_wp2_with ((go_at_call 90; refine (inRange_any _ _ _ _).mono ?_; rintro e w' ⟨rfl, rfl⟩))
  all_goals (go_ret)
  all_goals (exact ⟨by simp [*], (Below.refl _ _).alloc (Nat.le_refl _) _⟩)

theorem toDot_any (a b : Int) (w : World) :
    Calls Try.prog 73 #[.agg #[.int .i64 a, .int .i64 b]] w fun e w' => e = .returned (.agg #[.int .i64 a, .int .i64 b]) ∧ Below w.heap.size w w' := by
  go_enter Try.func73, Try.ntmps73
  go_wp2
  refine bodyPost_ret (v := .agg #[.int .i64 a, .int .i64 b]) (by simp [results, Try.results73, go_sem]) rfl ⟨rfl, ?_⟩
  repeat (first | (with_reducible exact Below.refl _ _) | ((with_reducible refine Below.setCell ?_ ?_ _); rotate_left; (focus (first | omega | (simp; done) | (simp; omega)))) | ((with_reducible refine Below.alloc ?_ ?_ _); rotate_left; (focus (first | omega | (simp; done) | (simp; omega)))) | (with_reducible refine Below.drew ?_))

theorem eqDot_any (a b x y : Int) (w : World) :
    Calls Try.prog 77 #[.agg #[.int .i64 a, .int .i64 b], .agg #[.int .i64 x, .int .i64 y]] w fun e w' => e = .returned (.bool (M1.eqd a b x y)) ∧ Below w.heap.size w w' := by
  unfold M1.eqd
  go_enter Try.func77, Try.ntmps77
  go_wp2
  all_goals (go_ret)
  all_goals (refine ⟨by simp_all, ?_⟩)
  all_goals (repeat (first | (with_reducible exact Below.refl _ _) | ((with_reducible refine Below.setCell ?_ ?_ _); rotate_left; (focus (first | omega | (simp; done) | (simp; omega)))) | ((with_reducible refine Below.alloc ?_ ?_ _); rotate_left; (focus (first | omega | (simp; done) | (simp; omega)))) | (with_reducible refine Below.drew ?_)))

end Go.Proofs.Ytdpeopmbboogaaa

namespace M1

/-- A small letter. -/
def letB (c : UInt8) : Bool := decide (97 ≤ (c.toNat : Int)) && decide ((c.toNat : Int) ≤ 122)
def allB (s : ByteArray) : Bool := s.data.toList.all letB
def nameB (s : ByteArray) : Bool := (decide (1 ≤ s.size) && decide (s.size ≤ 12)) && allB s

theorem allB_yes {s : ByteArray} (h : ∀ j (hj : j < s.size), letB s[j] = true) : allB s = true := by
  unfold allB
  rw [List.all_eq_true]
  intro x hx
  obtain ⟨j, hj, rfl⟩ := List.mem_iff_getElem.1 hx
  have h2 : letB s.data[j] = true := h j (by simpa using hj)
  simpa using h2
theorem allB_no {s : ByteArray} {j : Nat} (hj : j < s.size) (h : letB s[j] = false) : allB s = false := by
  unfold allB
  rw [List.all_eq_false]
  refine ⟨s[j], ?_, by simp [h]⟩
  show s.data[j] ∈ _
  simp
def spanB (id parent : Int) (s : ByteArray) (start fin : Int) : Bool :=
  inB id 1 1000 && inB parent 0 1000 && (parent != id) && nameB s && inB start 0 1000000000 && inB fin start 1000000000
theorem spanB_eq (id parent : Int) (s : ByteArray) (start fin : Int) : spanB id parent s start fin =
    (inB id 1 1000 && inB parent 0 1000 && (parent != id) && nameB s && inB start 0 1000000000 && inB fin 0 1000000000 && decide (start ≤ fin)) := by
  unfold spanB
  generalize nameB s = b
  generalize (parent != id) = c
  rw [Bool.eq_iff_iff]
  cases b <;> cases c
  all_goals first | (simp [inB]; done) | (simp [inB]; omega)
end M1

namespace M1

/-- A span that is zero. -/
def zeroB (id pa : Int) (s : ByteArray) (st en : Int) : Bool := decide (id = 0) && decide (pa = 0) && decide (s.toList = []) && decide (st = 0) && decide (en = 0)
def headB (dr dn sw sc sr tr : Int) : Bool := dotOk dr dn && stOk sw sc sr && decide (sr = dr) && inB tr 1 1000
def kindB (k id pa : Int) (s : ByteArray) (st en lv : Int) : Bool :=
  if k = 1 then spanB id pa s st en && (lv == 0)
  else if k = 2 then zeroB id pa s st en && (lv == 0)
  else if k = 3 then zeroB id pa s st en && inB lv 1 1000000
  else false
def updB (dr dn sw sc sr k tr id pa : Int) (s : ByteArray) (st en lv : Int) : Bool := headB dr dn sw sc sr tr && kindB k id pa s st en lv
end M1

namespace M1

structure Upd where
  dr : Int
  dn : Int
  sw : Int
  sc : Int
  sr : Int
  k : Int
  tr : Int
  id : Int
  pa : Int
  s : ByteArray
  st : Int
  en : Int
  lv : Int

def zeroU : Upd := ⟨0, 0, 0, 0, 0, 0, 0, 0, 0, ByteArray.empty, 0, 0, 0⟩
/-- The i-th update. -/
def up (us : List Upd) (i : Nat) : Upd := us.getD i zeroU
def okU (u : Upd) : Bool := updB u.dr u.dn u.sw u.sc u.sr u.k u.tr u.id u.pa u.s u.st u.en u.lv

/-- May b stand just behind a? -/
def fol (a b : Upd) : Bool :=
  if b.dr = a.dr then decide (b.dn = a.dn + 1) && aheadB a.sw a.sc a.sr b.sw b.sc b.sr else decide (a.dr < b.dr) && decide (b.dn = 1)
def okAt (us : List Upd) (j : Nat) : Bool := okU (up us j) && (if j = 0 then decide ((up us j).dn = 1) else fol (up us (j - 1)) (up us j))
def setOk (us : List Upd) : Bool := decide (us.length ≤ 60) && (List.range us.length).all (okAt us)

theorem setOk_yes {l : List Upd} (h : ∀ j, j < l.length → okAt l j = true) : setOk l = decide (l.length ≤ 60) := by
  have : (List.range l.length).all (okAt l) = true := by simp; exact h
  unfold setOk; rw [this]; simp
theorem setOk_no {l : List Upd} {j : Nat} (hj : j < l.length) (h : okAt l j = false) : setOk l = false := by
  simp [setOk]; intro _; exact ⟨j, hj, h⟩
theorem setOk_all {l : List Upd} (h : setOk l = true) : ∀ j, j < l.length → okAt l j = true := by
  simp [setOk] at h; exact h.2
theorem setOk_len {l : List Upd} (h : setOk l = true) : l.length ≤ 60 := by
  simp [setOk] at h; exact h.1
theorem okAt_ok {l : List Upd} {j : Nat} (h : okAt l j = true) : okU (up l j) = true := by
  simp [okAt] at h; exact h.1

theorem upd_ext {u v : Upd} (h1 : u.dr = v.dr) (h2 : u.dn = v.dn) (h3 : u.sw = v.sw) (h4 : u.sc = v.sc) (h5 : u.sr = v.sr) (h6 : u.k = v.k) (h7 : u.tr = v.tr) (h8 : u.id = v.id) (h9 : u.pa = v.pa) (h10 : u.s = v.s) (h11 : u.st = v.st) (h12 : u.en = v.en) (h13 : u.lv = v.lv) : u = v := by
  cases u; cases v; simp at *; simp [*]

theorem okU_dot {u : Upd} (h : okU u = true) : 1 ≤ u.dr ∧ u.dr ≤ 5 ∧ 1 ≤ u.dn ∧ u.dn ≤ 1000000 := by
  simp [okU, updB, headB] at h
  exact dotOk_true h.1.1.1.1

/-- Is a dot ahead of another one? -/
def dahead (a b x y : Int) : Bool := decide (a < x) || (decide (a = x) && decide (b < y))
def cmpI (x y : Int) : Int := if x < y then -1 else if y < x then 1 else 0
def orI (x y : Int) : Int := if x = 0 then y else x
theorem dahead_cmp (a b x y : Int) : decide (orI (cmpI a x) (cmpI b y) < 0) = dahead a b x y := by
  unfold orI cmpI dahead
  by_cases h1 : a < x
  · simp [h1]
  · by_cases h2 : x < a
    · have h3 : ¬ a = x := by omega
      simp [h1, h2, h3]
    · have h3 : a = x := by omega
      by_cases h4 : b < y
      · simp [h3, h4]
      · by_cases h5 : y < b
        · simp [h3, h4, h5]
        · simp [h3, h4, h5]
end M1
