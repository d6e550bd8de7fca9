/-
  Texts of one proof, joined: Mark, Math3, Math4, Math5.
-/
import Derived.Test.YtnchbndgdkhldaaGreatZFound04
import Derived.Test.YtnchbndgdkhldaaGreatZFound05
import Derived.Test.YtnchbndgdkhldaaGreatZFound00
import Derived.Test.YtnchbndgdkhldaaGreatZFound02
namespace Go.Proofs.YtnchbndgdkhldaaGreat
open Go.ChangeShapes Go.WideShapes Go.ChangeAt Go.RowKit

/-- A vector whose row, if it has one, is a block of lo .. hi - 1; f: its cells. -/
def MV (w : World) (av : Option Addr) (n cap lo hi : Nat) (f : Nat → Value) : Prop :=
  n ≤ cap ∧ cap ≤ maxLen ∧ ((n = 0 ∧ av = none) ∨ ∃ g, av = some ⟨g, 0, none⟩ ∧ lo ≤ g ∧ g < hi ∧ RowAt w g (n * 2) f)
/-- Nothing but that vector's own row has turned. -/
def Mk (av : Option Addr) (w w' : World) : Prop := (av = none → Below w.heap.size w w') ∧ ∀ g, av = some ⟨g, 0, none⟩ → Gr g w w'

theorem mk_none {w w' : World} (h : Below w.heap.size w w') : Mk none w w' := ⟨fun _ => h, fun _ e => by cases e⟩
theorem mk_some {w w' : World} {g : Nat} (h : Gr g w w') : Mk (some ⟨g, 0, none⟩) w w' := ⟨(fun e => by cases e), (fun g2 e => by injection e with e; injection e with e _ _; subst e; exact h)⟩
theorem MV.below {w w' : World} {av : Option Addr} {n cap lo hi : Nat} {f : Nat → Value} (h : MV w av n cap lo hi f) (hb : Below w.heap.size w w') : MV w' av n cap lo hi f :=
  ⟨h.1, h.2.1, h.2.2.imp id fun ⟨g, e, h1, h2, r⟩ => ⟨g, e, h1, h2, r.below hb⟩⟩
theorem MV.mk {w w' : World} {av bv : Option Addr} {n cap lo hi m cm lo2 hi2 : Nat} {f f2 : Nat → Value} (h : MV w av n cap lo hi f) (h2 : MV w bv m cm lo2 hi2 f2) (hm : Mk bv w w') (hd : hi ≤ lo2 ∨ hi2 ≤ lo) : MV w' av n cap lo hi f := by
  refine ⟨h.1, h.2.1, ?_⟩
  rcases h.2.2 with h0 | ⟨g, e, h3, h4, r⟩
  · exact Or.inl h0
  · refine Or.inr ⟨g, e, h3, h4, ?_⟩
    rcases h2.2.2 with ⟨_, h0⟩ | ⟨g2, e2, h5, h6, _⟩
    · exact r.below (hm.1 h0)
    · exact r.gr (hm.2 g2 e2) (by omega)
theorem Mk.below {w w' : World} {bv : Option Addr} {m cm lo2 hi2 B : Nat} {f2 : Nat → Value} (h2 : MV w bv m cm lo2 hi2 f2) (hm : Mk bv w w') (hB : B ≤ w.heap.size) (hlo : B ≤ lo2) : Below B w w' := by
  rcases h2.2.2 with ⟨_, h0⟩ | ⟨g2, e2, h5, h6, _⟩
  · exact (hm.1 h0).mono hB
  · exact gr_to (hm.2 g2 e2) hB (by omega)
theorem MV.vec {w : World} {av : Option Addr} {n cap lo hi : Nat} {ds : List (Int × Int)} (h : MV w av n cap lo hi (dcell ds)) (hl : ds.length = n) : IsVec w av n cap ds := by
  rcases h.2.2 with ⟨h0, _⟩ | ⟨g, rfl, _, _, r⟩
  · exact ⟨hl, h.1, h.2.1, Or.inl h0⟩
  · exact isVec_of_row hl h.1 h.2.1 r
theorem MV.of_owns {w : World} {base : Nat} {e : TypeId} {v : Value} {ds : List (Int × Int)} (h : w.ownsRow base e 2 v ds.length (dcs ds)) : ∃ av cap, v = .slice av ds.length cap ∧ MV w av ds.length cap base w.heap.size (dcell ds) := by
  obtain ⟨av, cap, hv, hi, hr⟩ := owns_vec h
  exact ⟨av, cap, hv, hi.hcap, hi.hmost, hr.imp (fun h => ⟨h.2, h.1⟩) fun ⟨g, e, hb, r⟩ => ⟨g, e, hb, r.lt, r⟩⟩

end Go.Proofs.YtnchbndgdkhldaaGreat

namespace M1

/-- A small letter. -/
def letB (c : UInt8) : Bool := decide (97 ≤ (c.toNat : Int)) && decide ((c.toNat : Int) ≤ 122)
def allB (s : ByteArray) : Bool := s.data.toList.all letB
def nameB (s : ByteArray) : Bool := (decide (1 ≤ s.size) && decide (s.size ≤ 12)) && allB s

theorem allB_yes {s : ByteArray} (h : ∀ j (hj : j < s.size), letB s[j] = true) : allB s = true := by
  unfold allB
  rw [List.all_eq_true]
  intro x hx
  obtain ⟨j, hj, rfl⟩ := List.mem_iff_getElem.1 hx
  have h2 : letB s.data[j] = true := h j (by simpa using hj)
  simpa using h2
theorem allB_no {s : ByteArray} {j : Nat} (hj : j < s.size) (h : letB s[j] = false) : allB s = false := by
  unfold allB
  rw [List.all_eq_false]
  refine ⟨s[j], ?_, by simp [h]⟩
  show s.data[j] ∈ _
  simp
def spanB (id parent : Int) (s : ByteArray) (start fin : Int) : Bool :=
  inB id 1 1000 && inB parent 0 1000 && (parent != id) && nameB s && inB start 0 1000000000 && inB fin start 1000000000
theorem spanB_eq (id parent : Int) (s : ByteArray) (start fin : Int) : spanB id parent s start fin =
    (inB id 1 1000 && inB parent 0 1000 && (parent != id) && nameB s && inB start 0 1000000000 && inB fin 0 1000000000 && decide (start ≤ fin)) := by
  unfold spanB
  generalize nameB s = b
  generalize (parent != id) = c
  rw [Bool.eq_iff_iff]
  cases b <;> cases c
  all_goals first | (simp [inB]; done) | (simp [inB]; omega)
end M1

namespace M1

/-- A span that is zero. -/
def zeroB (id pa : Int) (s : ByteArray) (st en : Int) : Bool := decide (id = 0) && decide (pa = 0) && decide (s.toList = []) && decide (st = 0) && decide (en = 0)
def headB (dr dn sw sc sr tr : Int) : Bool := dotOk dr dn && stOk sw sc sr && decide (sr = dr) && inB tr 1 1000
def kindB (k id pa : Int) (s : ByteArray) (st en lv : Int) : Bool :=
  if k = 1 then spanB id pa s st en && (lv == 0)
  else if k = 2 then zeroB id pa s st en && (lv == 0)
  else if k = 3 then zeroB id pa s st en && inB lv 1 1000000
  else false
def updB (dr dn sw sc sr k tr id pa : Int) (s : ByteArray) (st en lv : Int) : Bool := headB dr dn sw sc sr tr && kindB k id pa s st en lv
end M1

namespace M1

structure Upd where
  dr : Int
  dn : Int
  sw : Int
  sc : Int
  sr : Int
  k : Int
  tr : Int
  id : Int
  pa : Int
  s : ByteArray
  st : Int
  en : Int
  lv : Int

def zeroU : Upd := ⟨0, 0, 0, 0, 0, 0, 0, 0, 0, ByteArray.empty, 0, 0, 0⟩
/-- The i-th update. -/
def up (us : List Upd) (i : Nat) : Upd := us.getD i zeroU
def okU (u : Upd) : Bool := updB u.dr u.dn u.sw u.sc u.sr u.k u.tr u.id u.pa u.s u.st u.en u.lv

/-- May b stand just behind a? -/
def fol (a b : Upd) : Bool :=
  if b.dr = a.dr then decide (b.dn = a.dn + 1) && aheadB a.sw a.sc a.sr b.sw b.sc b.sr else decide (a.dr < b.dr) && decide (b.dn = 1)
def okAt (us : List Upd) (j : Nat) : Bool := okU (up us j) && (if j = 0 then decide ((up us j).dn = 1) else fol (up us (j - 1)) (up us j))
def setOk (us : List Upd) : Bool := decide (us.length ≤ 60) && (List.range us.length).all (okAt us)

theorem setOk_yes {l : List Upd} (h : ∀ j, j < l.length → okAt l j = true) : setOk l = decide (l.length ≤ 60) := by
  have : (List.range l.length).all (okAt l) = true := by simp; exact h
  unfold setOk; rw [this]; simp
theorem setOk_no {l : List Upd} {j : Nat} (hj : j < l.length) (h : okAt l j = false) : setOk l = false := by
  simp [setOk]; intro _; exact ⟨j, hj, h⟩
theorem setOk_all {l : List Upd} (h : setOk l = true) : ∀ j, j < l.length → okAt l j = true := by
  simp [setOk] at h; exact h.2
theorem setOk_len {l : List Upd} (h : setOk l = true) : l.length ≤ 60 := by
  simp [setOk] at h; exact h.1
theorem okAt_ok {l : List Upd} {j : Nat} (h : okAt l j = true) : okU (up l j) = true := by
  simp [okAt] at h; exact h.1

theorem upd_ext {u v : Upd} (h1 : u.dr = v.dr) (h2 : u.dn = v.dn) (h3 : u.sw = v.sw) (h4 : u.sc = v.sc) (h5 : u.sr = v.sr) (h6 : u.k = v.k) (h7 : u.tr = v.tr) (h8 : u.id = v.id) (h9 : u.pa = v.pa) (h10 : u.s = v.s) (h11 : u.st = v.st) (h12 : u.en = v.en) (h13 : u.lv = v.lv) : u = v := by
  cases u; cases v; simp at *; simp [*]

theorem okU_dot {u : Upd} (h : okU u = true) : 1 ≤ u.dr ∧ u.dr ≤ 5 ∧ 1 ≤ u.dn ∧ u.dn ≤ 1000000 := by
  simp [okU, updB, headB] at h
  exact dotOk_true h.1.1.1.1

/-- Is a dot ahead of another one? -/
def dahead (a b x y : Int) : Bool := decide (a < x) || (decide (a = x) && decide (b < y))
def cmpI (x y : Int) : Int := if x < y then -1 else if y < x then 1 else 0
def orI (x y : Int) : Int := if x = 0 then y else x
theorem dahead_cmp (a b x y : Int) : decide (orI (cmpI a x) (cmpI b y) < 0) = dahead a b x y := by
  unfold orI cmpI dahead
  by_cases h1 : a < x
  · simp [h1]
  · by_cases h2 : x < a
    · have h3 : ¬ a = x := by omega
      simp [h1, h2, h3]
    · have h3 : a = x := by omega
      by_cases h4 : b < y
      · simp [h3, h4]
      · by_cases h5 : y < b
        · simp [h3, h4, h5]
        · simp [h3, h4, h5]
end M1
