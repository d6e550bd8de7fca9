/-
  Texts of one proof, joined: Math10, Math35, Tick.
-/
import Derived.Test.YtccendmoeelniaaGreatDoorZReceived05
import Derived.Test.YtccendmoeelniaaGreatDoorZReceived22
import Derived.Test.YtccendmoeelniaaGreatDoorZReceived23
import Derived.Test.YtccendmoeelniaaGreatDoorZReceived03
namespace M1

/-- Is a stamp's time later than a clock's? -/
def laterB (sw sc a b : Int) : Bool := decide (a < sw) || (decide (sw = a) && decide (b < sc))
def noneLater (us : List Upd) (a b : Int) : Bool := (List.range us.length).all fun j => !laterB (up us j).sw (up us j).sc a b
def regOk (id a b c : Int) (us : List Upd) : Bool := inB id 1 5 && stOk a b c && decide (c = id) && setOk us && noneLater us a b

theorem noneLater_yes {us : List Upd} {a b : Int} (h : ∀ j, j < us.length → laterB (up us j).sw (up us j).sc a b = false) : noneLater us a b = true := by
  simp [noneLater]; exact h
theorem noneLater_no {us : List Upd} {a b : Int} {j : Nat} (hj : j < us.length) (h : laterB (up us j).sw (up us j).sc a b = true) : noneLater us a b = false := by
  simp [noneLater]; exact ⟨j, hj, h⟩
theorem noneLater_all {us : List Upd} {a b : Int} (h : noneLater us a b = true) : ∀ j, j < us.length → laterB (up us j).sw (up us j).sc a b = false := by
  simp [noneLater] at h; exact h
theorem regOk_1 {id a b c : Int} {us : List Upd} (h : inB id 1 5 = false) : regOk id a b c us = false := by simp [regOk, h]
theorem regOk_2 {id a b c : Int} {us : List Upd} (h : stOk a b c = false) : regOk id a b c us = false := by simp [regOk, h]
theorem regOk_3 {id a b c : Int} {us : List Upd} (h : ¬ c = id) : regOk id a b c us = false := by simp [regOk, h]
theorem regOk_4 {id a b c : Int} {us : List Upd} (h : setOk us = false) : regOk id a b c us = false := by simp [regOk, h]
theorem regOk_5 {id a b c : Int} {us : List Upd} (h1 : inB id 1 5 = true) (h2 : stOk a b c = true) (h3 : c = id) (h4 : setOk us = true) : regOk id a b c us = noneLater us a b := by unfold regOk; rw [h1, h2, h4, decide_eq_true h3]; rfl
end M1

namespace M1
/-- The clock behind the first k meetings; not ok where one of them was refused. -/
def mtTo (a b c now : Int) (us : List Upd) : Nat → St
  | 0 => ⟨a, b, c, true⟩
  | k + 1 => if (mtTo a b c now us k).ok = true then metP (mtTo a b c now us k).a (mtTo a b c now us k).b (mtTo a b c now us k).c (up us k).sw (up us k).sc (up us k).sr now else ⟨0, 0, 0, false⟩
theorem mt_step {a b c now : Int} {us : List Upd} {k : Nat} (h : (mtTo a b c now us k).ok = true) : mtTo a b c now us (k + 1) = metP (mtTo a b c now us k).a (mtTo a b c now us k).b (mtTo a b c now us k).c (up us k).sw (up us k).sc (up us k).sr now := by
  show (if _ then _ else _) = _
  rw [if_pos h]
theorem mt_no {a b c now : Int} {us : List Upd} {k : Nat} (h : (mtTo a b c now us k).ok = false) : ∀ j, (mtTo a b c now us (k + j)).ok = false
  | 0 => h
  | j + 1 => by
    show (if _ then _ else (⟨0, 0, 0, false⟩ : St)).ok = false
    rw [if_neg (by have := mt_no h j; rw [show k.add j = k + j from rfl, this]; simp)]
theorem mt_fail {a b c now : Int} {us : List Upd} {k n : Nat} (h : (mtTo a b c now us k).ok = false) (hk : k ≤ n) : (mtTo a b c now us n).ok = false := by
  have := mt_no h (n - k)
  rwa [show k + (n - k) = n by omega] at this
/-- A region. -/
structure Rg where
  id : Int
  a : Int
  b : Int
  c : Int
  us : List Upd
def zeroR : Rg := ⟨0, 0, 0, 0, []⟩
def rOk (r : Rg) : Bool := regOk r.id r.a r.b r.c r.us
/-- What is handed in has not its form. -/
def rcF (ys : List Upd) (now : Int) : Bool := !(decide (ys.length ≤ 60)) || (!(inB now 0 1000000000) || !(allR ys))
def mt (r : Rg) (ys : List Upd) (now : Int) : St := mtTo r.a r.b r.c now ys ys.length
def rcC (r : Rg) (ys : List Upd) (now : Int) : Int :=
  if rOk r = true then if rcF ys now = true then 2 else if tOk r.us ys = true then if (mt r ys now).ok = true then 0 else 4 else 3 else 1
def rcN (r : Rg) (ys : List Upd) (now : Int) : Rg := ⟨r.id, (mt r ys now).a, (mt r ys now).b, (mt r ys now).c, tL r.us ys⟩
def rcR (r : Rg) (ys : List Upd) (now : Int) : Rg :=
  if rOk r = true then if rcF ys now = true then r else if tOk r.us ys = true then if (mt r ys now).ok = true then rcN r ys now else r else r else zeroR
theorem rc_1 {r : Rg} {ys : List Upd} {now : Int} (h : rOk r = false) : rcC r ys now = 1 ∧ rcR r ys now = zeroR := by
  unfold rcC rcR; rw [h]; exact ⟨rfl, rfl⟩
theorem rc_2 {r : Rg} {ys : List Upd} {now : Int} (h : rOk r = true) (h2 : rcF ys now = true) : rcC r ys now = 2 ∧ rcR r ys now = r := by
  unfold rcC rcR; rw [h, h2]; exact ⟨rfl, rfl⟩
theorem rc_3 {r : Rg} {ys : List Upd} {now : Int} (h : rOk r = true) (h2 : rcF ys now = false) (h3 : tOk r.us ys = false) : rcC r ys now = 3 ∧ rcR r ys now = r := by
  unfold rcC rcR; rw [h, h2, h3]; exact ⟨rfl, rfl⟩
theorem rc_4 {r : Rg} {ys : List Upd} {now : Int} (h : rOk r = true) (h2 : rcF ys now = false) (h3 : tOk r.us ys = true) (h4 : (mt r ys now).ok = false) : rcC r ys now = 4 ∧ rcR r ys now = r := by
  unfold rcC rcR; rw [h, h2, h3, h4]; exact ⟨rfl, rfl⟩
theorem rc_0 {r : Rg} {ys : List Upd} {now : Int} (h : rOk r = true) (h2 : rcF ys now = false) (h3 : tOk r.us ys = true) (h4 : (mt r ys now).ok = true) : rcC r ys now = 0 ∧ rcR r ys now = rcN r ys now := by
  unfold rcC rcR; rw [h, h2, h3, h4]; exact ⟨rfl, rfl⟩
theorem rOk_set {r : Rg} (h : rOk r = true) : setOk r.us = true := by
  unfold rOk regOk at h; simp at h; exact h.1.2
theorem rcF_1 {ys : List Upd} {now : Int} (h : ¬ ys.length ≤ 60) : rcF ys now = true := by simp [rcF, h]
theorem rcF_2 {ys : List Upd} {now : Int} (h : inB now 0 1000000000 = false) : rcF ys now = true := by simp [rcF, h]
theorem rcF_3 {ys : List Upd} {now : Int} (h : allR ys = false) : rcF ys now = true := by simp [rcF, h]
theorem rcF_0 {ys : List Upd} {now : Int} (h1 : ys.length ≤ 60) (h2 : inB now 0 1000000000 = true) (h3 : allR ys = true) : rcF ys now = false := by simp [rcF, h1, h2, h3]
theorem tOk_all {xs ys : List Upd} (h : tOk xs ys = true) : allR ys = true := by
  unfold tOk tpre at h; simp at h; exact h.1.2
end M1

namespace Go.Proofs.YtccendmoeelniaaGreatDoor
open Go.ChangeShapes Go.WideShapes Go.ChangeAt Go.RowKit

theorem ticked_spec (a b c now : Int) (w : World) :
    Calls Tryz.prog 95 #[.agg #[.int .i64 a, .int .i64 b, .int .i64 c], .int .i64 now] w fun e w' => e = .returned (.tuple #[.agg #[.int .i64 (M1.tickP a b c now).a, .int .i64 (M1.tickP a b c now).b, .int .i64 (M1.tickP a b c now).c], .bool (M1.tickP a b c now).ok]) ∧ Below w.heap.size w w' := by
  by_cases h1 : M1.stOk a b c = true
  · by_cases h2 : M1.inB now 0 1000000000 = true
    · have e1 : M1.tickP a b c now = M1.nextP a b c now := by simp [M1.tickP, h1, h2]
      rw [e1]; clear e1
      have hb := M1.stOk_true h1
      have hb2 : 0 ≤ b ∧ b ≤ 1000000 := by omega
      clear hb
      go_enter Tryz.func95, Tryz.ntmps95
      go_wp2_with fail
      refine (stampOk_spec _ _ _ _).mono ?_
      rintro e w1 ⟨rfl, hb1⟩
      have hB1 := hb1
      clear hb1
      obtain ⟨hc1, hf1⟩ := bcell hB1
      have hz1 := hB1.size
      (try simp [Nat.succ_le_iff] at hz1)
      have hz1_0 : w.heap.size < w1.heap.size := by omega
      go_wp2_with ((go_at_call 65; refine (l1In_any _ _ _ _).mono ?_; rintro e w' ⟨rfl, rfl⟩))
      refine (next_spec _ _ _ _ _ hb2).mono ?_
      rintro e w2 ⟨rfl, hb2⟩
      have hB2 := hB1.trans (hb2.mono hB1.size)
      obtain ⟨hc2, hf2⟩ := bcell hB2
      have hz2 := hB2.size
      (try simp [Nat.succ_le_iff] at hz2)
      have hz2_0 : w.heap.size < w2.heap.size := by omega
      clear hb2 hB1 hc1 hf1 hz1 hz1_0
      go_wp2_with fail
      refine bodyPost_ret (v := .tuple #[.agg #[.int .i64 (M1.nextP a b c now).a, .int .i64 (M1.nextP a b c now).b, .int .i64 (M1.nextP a b c now).c], .bool (M1.nextP a b c now).ok]) (by simp [results, Tryz.results95, go_sem, *]) rfl ⟨rfl, ?_⟩
      repeat (first | (with_reducible exact Below.refl _ _) | ((with_reducible refine Below.setCell ?_ ?_ _); rotate_left; (focus (first | omega | (simp; done) | (simp; omega)))) | ((with_reducible refine Below.alloc ?_ ?_ _); rotate_left; (focus (first | omega | (simp; done) | (simp; omega)))) | (with_reducible refine Below.drew ?_) | ((with_reducible refine Below.trans ?_ (Below.mono hB2 ?_)); rotate_left; (focus (first | omega | (simp; done) | (simp; omega)))))
    · have e1 : M1.tickP a b c now = ⟨0, 0, 0, false⟩ := by simp [M1.tickP, h2]
      rw [e1]; clear e1
      have h2' : M1.inB now 0 1000000000 = false := by simpa using h2
      go_enter Tryz.func95, Tryz.ntmps95
      go_wp2_with fail
      refine (stampOk_spec _ _ _ _).mono ?_
      rintro e w1 ⟨rfl, hb1⟩
      have hB1 := hb1
      clear hb1
      obtain ⟨hc1, hf1⟩ := bcell hB1
      have hz1 := hB1.size
      (try simp [Nat.succ_le_iff] at hz1)
      have hz1_0 : w.heap.size < w1.heap.size := by omega
      go_wp2_with ((go_at_call 65; refine (l1In_any _ _ _ _).mono ?_; rintro e w' ⟨rfl, rfl⟩))
      refine bodyPost_ret (v := .tuple #[.agg #[.int .i64 0, .int .i64 0, .int .i64 0], .bool false]) (by simp [results, Tryz.results95, go_sem, *]) rfl ⟨rfl, ?_⟩
      repeat (first | (with_reducible exact Below.refl _ _) | ((with_reducible refine Below.setCell ?_ ?_ _); rotate_left; (focus (first | omega | (simp; done) | (simp; omega)))) | ((with_reducible refine Below.alloc ?_ ?_ _); rotate_left; (focus (first | omega | (simp; done) | (simp; omega)))) | (with_reducible refine Below.drew ?_) | ((with_reducible refine Below.trans ?_ (Below.mono hB1 ?_)); rotate_left; (focus (first | omega | (simp; done) | (simp; omega)))))
  · have e1 : M1.tickP a b c now = ⟨0, 0, 0, false⟩ := by simp [M1.tickP, h1]
    rw [e1]; clear e1
    have h1' : M1.stOk a b c = false := by simpa using h1
    go_enter Tryz.func95, Tryz.ntmps95
    go_wp2_with fail
    refine (stampOk_spec _ _ _ _).mono ?_
    rintro e w1 ⟨rfl, hb1⟩
    have hB1 := hb1
    clear hb1
    obtain ⟨hc1, hf1⟩ := bcell hB1
    have hz1 := hB1.size
    (try simp [Nat.succ_le_iff] at hz1)
    have hz1_0 : w.heap.size < w1.heap.size := by omega
    go_wp2_with ((go_at_call 65; refine (l1In_any _ _ _ _).mono ?_; rintro e w' ⟨rfl, rfl⟩))
    refine bodyPost_ret (v := .tuple #[.agg #[.int .i64 0, .int .i64 0, .int .i64 0], .bool false]) (by simp [results, Tryz.results95, go_sem, *]) rfl ⟨rfl, ?_⟩
    repeat (first | (with_reducible exact Below.refl _ _) | ((with_reducible refine Below.setCell ?_ ?_ _); rotate_left; (focus (first | omega | (simp; done) | (simp; omega)))) | ((with_reducible refine Below.alloc ?_ ?_ _); rotate_left; (focus (first | omega | (simp; done) | (simp; omega)))) | (with_reducible refine Below.drew ?_) | ((with_reducible refine Below.trans ?_ (Below.mono hB1 ?_)); rotate_left; (focus (first | omega | (simp; done) | (simp; omega)))))

theorem ticked_impl (a b c now : Int) (w : World) :
    Calls Tryz.prog 87 #[.agg #[.int .i64 a, .int .i64 b, .int .i64 c], .int .i64 now] w fun e w' => e = .returned (.tuple #[.agg #[.int .i64 (M1.tickP a b c now).a, .int .i64 (M1.tickP a b c now).b, .int .i64 (M1.tickP a b c now).c], .bool (M1.tickP a b c now).ok]) ∧ Below w.heap.size w w' := by
  by_cases h1 : M1.stOk a b c = true
  · by_cases h2 : M1.inB now 0 1000000000 = true
    · have e1 : M1.tickP a b c now = M1.nextP a b c now := by simp [M1.tickP, h1, h2]
      rw [e1]; clear e1
      have hb := M1.stOk_true h1
      have hb2 : 0 ≤ b ∧ b ≤ 1000000 := by omega
      clear hb
      obtain ⟨hb1, hb3⟩ := hb2
      by_cases h3 : a < now
      · have e1 : M1.nextP a b c now = ⟨now, 0, c, true⟩ := by simp [M1.nextP, h3]
        rw [e1]; clear e1
        go_enter Tryz.func87, Tryz.ntmps87
        go_wp2_with fail
        refine (stampOk_impl _ _ _ _).mono ?_
        rintro e w1 ⟨rfl, hb1⟩
        have hB1 := hb1
        clear hb1
        obtain ⟨hc1, hf1⟩ := bcell hB1
        have hz1 := hB1.size
        (try simp [Nat.succ_le_iff] at hz1)
        have hz1_0 : w.heap.size < w1.heap.size := by omega
        go_wp2_with ((go_at_call 83; refine (timeOk_any _ _).mono ?_; rintro e w' ⟨rfl, rfl⟩))
        refine bodyPost_ret (v := .tuple #[.agg #[.int .i64 now, .int .i64 0, .int .i64 c], .bool true]) (by simp [results, Tryz.results87, go_sem, *]) rfl ⟨rfl, ?_⟩
        repeat (first | (with_reducible exact Below.refl _ _) | ((with_reducible refine Below.setCell ?_ ?_ _); rotate_left; (focus (first | omega | (simp; done) | (simp; omega)))) | ((with_reducible refine Below.alloc ?_ ?_ _); rotate_left; (focus (first | omega | (simp; done) | (simp; omega)))) | (with_reducible refine Below.drew ?_) | ((with_reducible refine Below.trans ?_ (Below.mono hB1 ?_)); rotate_left; (focus (first | omega | (simp; done) | (simp; omega)))))
      · by_cases h4 : b = 1000000
        · have e1 : M1.nextP a b c now = ⟨0, 0, 0, false⟩ := by simp [M1.nextP, h3, h4]
          rw [e1]; clear e1
          subst h4
          go_enter Tryz.func87, Tryz.ntmps87
          go_wp2_with fail
          refine (stampOk_impl _ _ _ _).mono ?_
          rintro e w1 ⟨rfl, hb1⟩
          have hB1 := hb1
          clear hb1
          obtain ⟨hc1, hf1⟩ := bcell hB1
          have hz1 := hB1.size
          (try simp [Nat.succ_le_iff] at hz1)
          have hz1_0 : w.heap.size < w1.heap.size := by omega
          go_wp2_with ((go_at_call 83; refine (timeOk_any _ _).mono ?_; rintro e w' ⟨rfl, rfl⟩))
          refine bodyPost_ret (v := .tuple #[.agg #[.int .i64 0, .int .i64 0, .int .i64 0], .bool false]) (by simp [results, Tryz.results87, go_sem, *]) rfl ⟨rfl, ?_⟩
          repeat (first | (with_reducible exact Below.refl _ _) | ((with_reducible refine Below.setCell ?_ ?_ _); rotate_left; (focus (first | omega | (simp; done) | (simp; omega)))) | ((with_reducible refine Below.alloc ?_ ?_ _); rotate_left; (focus (first | omega | (simp; done) | (simp; omega)))) | (with_reducible refine Below.drew ?_) | ((with_reducible refine Below.trans ?_ (Below.mono hB1 ?_)); rotate_left; (focus (first | omega | (simp; done) | (simp; omega)))))
        · have e1 : M1.nextP a b c now = ⟨a, b + 1, c, true⟩ := by simp [M1.nextP, h3, h4]
          rw [e1]; clear e1
          have h5 : (b == 1000000) = false := by simp [h4]
          go_enter Tryz.func87, Tryz.ntmps87
          go_wp2_with fail
          refine (stampOk_impl _ _ _ _).mono ?_
          rintro e w1 ⟨rfl, hb1⟩
          have hB1 := hb1
          clear hb1
          obtain ⟨hc1, hf1⟩ := bcell hB1
          have hz1 := hB1.size
          (try simp [Nat.succ_le_iff] at hz1)
          have hz1_0 : w.heap.size < w1.heap.size := by omega
          go_wp2_with ((go_at_call 83; refine (timeOk_any _ _).mono ?_; rintro e w' ⟨rfl, rfl⟩))
          refine bodyPost_ret (v := .tuple #[.agg #[.int .i64 a, .int .i64 (b + 1), .int .i64 c], .bool true]) (by simp [results, Tryz.results87, go_sem, *]) rfl ⟨rfl, ?_⟩
          repeat (first | (with_reducible exact Below.refl _ _) | ((with_reducible refine Below.setCell ?_ ?_ _); rotate_left; (focus (first | omega | (simp; done) | (simp; omega)))) | ((with_reducible refine Below.alloc ?_ ?_ _); rotate_left; (focus (first | omega | (simp; done) | (simp; omega)))) | (with_reducible refine Below.drew ?_) | ((with_reducible refine Below.trans ?_ (Below.mono hB1 ?_)); rotate_left; (focus (first | omega | (simp; done) | (simp; omega)))))
    · have e1 : M1.tickP a b c now = ⟨0, 0, 0, false⟩ := by simp [M1.tickP, h2]
      rw [e1]; clear e1
      have h2' : M1.inB now 0 1000000000 = false := by simpa using h2
      go_enter Tryz.func87, Tryz.ntmps87
      go_wp2_with fail
      refine (stampOk_impl _ _ _ _).mono ?_
      rintro e w1 ⟨rfl, hb1⟩
      have hB1 := hb1
      clear hb1
      obtain ⟨hc1, hf1⟩ := bcell hB1
      have hz1 := hB1.size
      (try simp [Nat.succ_le_iff] at hz1)
      have hz1_0 : w.heap.size < w1.heap.size := by omega
      go_wp2_with ((go_at_call 83; refine (timeOk_any _ _).mono ?_; rintro e w' ⟨rfl, rfl⟩))
      refine bodyPost_ret (v := .tuple #[.agg #[.int .i64 0, .int .i64 0, .int .i64 0], .bool false]) (by simp [results, Tryz.results87, go_sem, *]) rfl ⟨rfl, ?_⟩
      repeat (first | (with_reducible exact Below.refl _ _) | ((with_reducible refine Below.setCell ?_ ?_ _); rotate_left; (focus (first | omega | (simp; done) | (simp; omega)))) | ((with_reducible refine Below.alloc ?_ ?_ _); rotate_left; (focus (first | omega | (simp; done) | (simp; omega)))) | (with_reducible refine Below.drew ?_) | ((with_reducible refine Below.trans ?_ (Below.mono hB1 ?_)); rotate_left; (focus (first | omega | (simp; done) | (simp; omega)))))
  · have e1 : M1.tickP a b c now = ⟨0, 0, 0, false⟩ := by simp [M1.tickP, h1]
    rw [e1]; clear e1
    have h1' : M1.stOk a b c = false := by simpa using h1
    go_enter Tryz.func87, Tryz.ntmps87
    go_wp2_with fail
    refine (stampOk_impl _ _ _ _).mono ?_
    rintro e w1 ⟨rfl, hb1⟩
    have hB1 := hb1
    clear hb1
    obtain ⟨hc1, hf1⟩ := bcell hB1
    have hz1 := hB1.size
    (try simp [Nat.succ_le_iff] at hz1)
    have hz1_0 : w.heap.size < w1.heap.size := by omega
    go_wp2_with ((go_at_call 83; refine (timeOk_any _ _).mono ?_; rintro e w' ⟨rfl, rfl⟩))
    refine bodyPost_ret (v := .tuple #[.agg #[.int .i64 0, .int .i64 0, .int .i64 0], .bool false]) (by simp [results, Tryz.results87, go_sem, *]) rfl ⟨rfl, ?_⟩
    repeat (first | (with_reducible exact Below.refl _ _) | ((with_reducible refine Below.setCell ?_ ?_ _); rotate_left; (focus (first | omega | (simp; done) | (simp; omega)))) | ((with_reducible refine Below.alloc ?_ ?_ _); rotate_left; (focus (first | omega | (simp; done) | (simp; omega)))) | (with_reducible refine Below.drew ?_) | ((with_reducible refine Below.trans ?_ (Below.mono hB1 ?_)); rotate_left; (focus (first | omega | (simp; done) | (simp; omega)))))

end Go.Proofs.YtccendmoeelniaaGreatDoor
