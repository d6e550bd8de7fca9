/-
  Texts of one proof, joined: Set2, SameS, Math10, Reg1, Reg4, Wn1, Sp1.
-/
import Derived.Test.YtdpeopmbboogaaaZLongest04
import Derived.Test.YtdpeopmbboogaaaZLongest15
import Derived.Test.YtdpeopmbboogaaaZLongest21
import Derived.Test.YtdpeopmbboogaaaZLongest07
import Derived.Test.YtdpeopmbboogaaaZLongest10
import Derived.Test.YtdpeopmbboogaaaZLongest17
import Derived.Test.YtdpeopmbboogaaaZLongest16
namespace Go.Proofs.Ytdpeopmbboogaaa
open Go.ChangeShapes Go.WideShapes Go.ChangeAt Go.RowKit
set_option linter.unusedSimpArgs false

theorem eqDot_self (a b : Int) (w : World) :
    Calls Try.prog 77 #[.agg #[.int .i64 a, .int .i64 b], .agg #[.int .i64 a, .int .i64 b]] w fun e w' => e = .returned (.bool true) ∧ Below w.heap.size w w' :=
  (eqDot_any a b a b w).mono fun e w' ⟨he, hb⟩ => ⟨by rw [he]; simp [M1.eqd], hb⟩

theorem eqSpan_self (a b c d : Int) (s : ByteArray) (w : World) :
    Calls Try.prog 76 #[.agg #[.int .i64 a, .int .i64 b, .string s, .int .i64 c, .int .i64 d], .agg #[.int .i64 a, .int .i64 b, .string s, .int .i64 c, .int .i64 d]] w fun e w' => e = .returned (.bool true) ∧ Below w.heap.size w w' := by
  go_enter Try.func76, Try.ntmps76
  go_wp2
  go_ret
  refine ⟨rfl, ?_⟩
  repeat (first | (with_reducible exact Below.refl _ _) | ((with_reducible refine Below.setCell ?_ ?_ _); rotate_left; (focus (first | omega | (simp; done) | (simp; omega)))) | ((with_reducible refine Below.alloc ?_ ?_ _); rotate_left; (focus (first | omega | (simp; done) | (simp; omega)))) | (with_reducible refine Below.drew ?_))

set_option maxHeartbeats 4000000 in
theorem eqUpdate_self (dr dn sw sc sr k tr id pa st en lv : Int) (s : ByteArray) (w : World) :
    Calls Try.prog 50 #[.agg #[.int .i64 dr, .int .i64 dn, .int .i64 sw, .int .i64 sc, .int .i64 sr, .int .i64 k, .int .i64 tr, .int .i64 id, .int .i64 pa, .string s, .int .i64 st, .int .i64 en, .int .i64 lv], .agg #[.int .i64 dr, .int .i64 dn, .int .i64 sw, .int .i64 sc, .int .i64 sr, .int .i64 k, .int .i64 tr, .int .i64 id, .int .i64 pa, .string s, .int .i64 st, .int .i64 en, .int .i64 lv]] w fun e w' => e = .returned (.bool true) ∧ Below w.heap.size w w' := by
  go_enter Try.func50, Try.ntmps50
  go_wp2_with fail
  refine (eqDot_self _ _ _).mono ?_
  rintro e w1 ⟨rfl, hb1⟩
  have hB1 := hb1
  clear hb1
  obtain ⟨hc1, hf1⟩ := bcell hB1
  have hz1 := hB1.size
  (try simp [Nat.succ_le_iff] at hz1)
  have hz1_0 : w.heap.size < w1.heap.size := by omega
  have hz1_1 : w.heap.size + 1 < w1.heap.size := by omega
  go_wp2_with fail
  refine (eqStamp_same _ _ _ _).mono ?_
  rintro e w2 ⟨rfl, hb2⟩
  have hB2 := hB1.trans (hb2.mono hB1.size)
  obtain ⟨hc2, hf2⟩ := bcell hB2
  have hz2 := hB2.size
  (try simp [Nat.succ_le_iff] at hz2)
  have hz2_0 : w.heap.size < w2.heap.size := by omega
  have hz2_1 : w.heap.size + 1 < w2.heap.size := by omega
  clear hb2 hB1 hc1 hf1 hz1 hz1_0 hz1_1
  go_wp2_with fail
  refine (eqSpan_self _ _ _ _ _ _).mono ?_
  rintro e w3 ⟨rfl, hb3⟩
  have hB3 := hB2.trans (hb3.mono hB2.size)
  obtain ⟨hc3, hf3⟩ := bcell hB3
  have hz3 := hB3.size
  (try simp [Nat.succ_le_iff] at hz3)
  have hz3_0 : w.heap.size < w3.heap.size := by omega
  have hz3_1 : w.heap.size + 1 < w3.heap.size := by omega
  clear hb3 hB2 hc2 hf2 hz2 hz2_0 hz2_1
  go_wp2_with fail
  go_ret
  refine ⟨rfl, ?_⟩
  repeat (first | (with_reducible exact Below.refl _ _) | ((with_reducible refine Below.setCell ?_ ?_ _); rotate_left; (focus (first | omega | (simp; done) | (simp; omega)))) | ((with_reducible refine Below.alloc ?_ ?_ _); rotate_left; (focus (first | omega | (simp; done) | (simp; omega)))) | (with_reducible refine Below.drew ?_) | ((with_reducible refine Below.trans ?_ (Below.mono hB3 ?_)); rotate_left; (focus (first | omega | (simp; done) | (simp; omega)))))

set_option maxHeartbeats 4000000 in
theorem eqUpdateS_self (av bv : Option Addr) (n cn cm : Nat) (us : List M1.Upd) (w : World) (h1 : IsUpds w av n cn us) (h2 : IsUpds w bv n cm us) :
    Calls Try.prog 21 #[.slice av n cn, .slice bv n cm] w fun e w' => e = .returned (.bool true) ∧ Below w.heap.size w w' := by
  have hm1 := h1.hcap
  have hm2 := h1.hmost
  have hm3 := h2.hcap
  have hm4 := h2.hmost
  unfold maxLen at hm2 hm4
  have hnb : ((n : Int) != (n : Int)) = false := by simp
  go_enter Try.func21, Try.ntmps21
  go_wp2
  go_loopw [5] (fun i wr => ∃ k : Nat, k ≤ n ∧ i = .int .i64 k ∧ Below w.heap.size w wr) (fun i _ => n - (intOf i).toNat)
  case atStart => exact ⟨0, Nat.zero_le _, rfl, Below.refl _ _⟩
  case round =>
    obtain ⟨k, hk, rfl, hB⟩ := hrel
    by_cases hlt : k < n
    · have g1 := h1.below hB
      have g2 := h2.below hB
      rcases g1.hlies with h0 | ⟨b, off, rfl, hb, hc⟩
      · omega
      rcases g2.hlies with h0 | ⟨b2, off2, rfl, hb2, hc2⟩
      · omega
      obtain ⟨c0, c1, c2, c3, c4, c5, c6, c7, c8, c9, c10, c11, c12⟩ := hc k hlt
      obtain ⟨d0, d1, d2, d3, d4, d5, d6, d7, d8, d9, d10, d11, d12⟩ := hc2 k hlt
      clear hc hc2 g1 g2
      have i0 : (0 : Int) ≤ (k : Int) := by omega
      have i1 : (k : Int) < (n : Int) := by omega
      go_wp2_with fail
      go_region_held3 (fun w' => Kp wr w')
        (first | exact kp_zero _ | exact kp_drew (by assumption) | exact kp_step (by assumption) (by assumption))
        (first
          | (go_at_call 50; refine (eqUpdate_self _ _ _ _ _ _ _ _ _ _ _ _ _ _).mono ?_; rintro e w' ⟨rfl, hb⟩))
      rename_i hK
      obtain ⟨hK1, hK2⟩ := hK
      have hB' := hB.trans (hK1.mono hB.size)
      go_wp2_with fail
      exact ⟨⟨k + 1, by omega, by go_num, hB'⟩, by simp [intOf]; omega⟩
    · go_wp2_with fail
      go_ret
      exact ⟨rfl, hB⟩

set_option maxHeartbeats 4000000 in
theorem szUpdateS_any (av : Option Addr) (n cn : Nat) (us : List M1.Upd) (left : Int) (w : World) (h1 : IsUpds w av n cn us) (h0 : 0 ≤ left) (hl : left ≤ 1048576) :
    Calls Try.prog 18 #[.slice av n cn, .int .i64 left] w fun e w' => ((∃ r, (n : Int) ≤ left ∧ 0 ≤ r ∧ r ≤ left ∧ e = .returned (.int .i64 r)) ∨ e = .returned (.int .i64 (-1))) ∧ Below w.heap.size w w' := by
  have hm1 := h1.hcap
  have hm2 := h1.hmost
  unfold maxLen at hm2
  by_cases hn : (n : Int) ≤ left
  · go_enter Try.func18, Try.ntmps18
    go_wp2_with fail
    go_loopw [1, 5] (fun r i wr => ∃ k : Nat, k ≤ n ∧ i = .int .i64 k ∧ Below w.heap.size w wr ∧ ∃ q : Int, 0 ≤ q ∧ q ≤ left ∧ r = .int .i64 q) (fun _ i _ => n - (intOf i).toNat)
    case atStart => exact ⟨0, Nat.zero_le _, rfl, Below.refl _ _, left - n, by omega, by omega, rfl⟩
    case round =>
      obtain ⟨k, hk, rfl, hB, q, hq0, hq1, rfl⟩ := hrel
      by_cases hlt : k < n
      · have g1 := h1.below hB
        rcases g1.hlies with h0 | ⟨b, off, rfl, hb, hc⟩
        · omega
        obtain ⟨c0, c1, c2, c3, c4, c5, c6, c7, c8, c9, c10, c11, c12⟩ := hc k hlt
        have hs := h1.htxt k hlt
        clear hc g1
        have i0 : (0 : Int) ≤ (k : Int) := by omega
        have i1 : (k : Int) < (n : Int) := by omega
        by_cases hf : ((M1.up us k).s.size : Int) ≤ q
        · go_wp2_with fail
          refine (szUpdate_yes _ _ _ _ _ _ _ _ _ _ _ _ _ _ _ hq0 (by omega) hs hf).mono ?_
          rintro e w2 ⟨rfl, hb2⟩
          have hB2 := hB.trans (hb2.mono hB.size)
          go_wp2_with fail
          exact ⟨⟨k + 1, by omega, by go_num, hB2, q - (M1.up us k).s.size, by omega, by omega, rfl⟩, by simp [intOf]; omega⟩
        · go_wp2_with fail
          refine (szUpdate_no _ _ _ _ _ _ _ _ _ _ _ _ _ _ _ hq0 (by omega) hs (by omega)).mono ?_
          rintro e w2 ⟨rfl, hb2⟩
          have hB2 := hB.trans (hb2.mono hB.size)
          go_wp2_with fail
          go_ret
          exact ⟨Or.inr rfl, hB2⟩
      · go_wp2_with fail
        go_ret
        exact ⟨Or.inl ⟨q, hn, hq0, hq1, rfl⟩, hB⟩
  · go_enter Try.func18, Try.ntmps18
    go_wp2_with fail
    go_ret
    exact ⟨Or.inr rfl, Below.refl _ _⟩
end Go.Proofs.Ytdpeopmbboogaaa

namespace M1
theorem ueq_self (u : Upd) : ueq u u = true := by simp [ueq]
end M1
namespace Go.Proofs.Ytdpeopmbboogaaa
open Go.ChangeShapes Go.WideShapes Go.ChangeAt Go.RowKit
set_option linter.unusedSimpArgs false
set_option linter.unusedVariables false

theorem big_any (av : Option Addr) (len cap : Nat) (w : World) (hc : len ≤ cap) (hm : cap ≤ maxLen) :
    Calls Try.prog 7 #[.slice av len cap] w fun e w' => e = .returned (.bool (decide ((1048576 : Int) < (len : Int)))) ∧ w' = w := by
  unfold maxLen at hm
  go_enter Try.func7, Try.ntmps7
  go_wp2
  go_ret
  exact ⟨rfl, rfl⟩

attribute [local go_sem high] eqU

end Go.Proofs.Ytdpeopmbboogaaa

namespace M1

/-- Is a stamp's time later than a clock's? -/
def laterB (sw sc a b : Int) : Bool := decide (a < sw) || (decide (sw = a) && decide (b < sc))
def noneLater (us : List Upd) (a b : Int) : Bool := (List.range us.length).all fun j => !laterB (up us j).sw (up us j).sc a b
def regOk (id a b c : Int) (us : List Upd) : Bool := inB id 1 5 && stOk a b c && decide (c = id) && setOk us && noneLater us a b

theorem noneLater_yes {us : List Upd} {a b : Int} (h : ∀ j, j < us.length → laterB (up us j).sw (up us j).sc a b = false) : noneLater us a b = true := by
  simp [noneLater]; exact h
theorem noneLater_no {us : List Upd} {a b : Int} {j : Nat} (hj : j < us.length) (h : laterB (up us j).sw (up us j).sc a b = true) : noneLater us a b = false := by
  simp [noneLater]; exact ⟨j, hj, h⟩
theorem noneLater_all {us : List Upd} {a b : Int} (h : noneLater us a b = true) : ∀ j, j < us.length → laterB (up us j).sw (up us j).sc a b = false := by
  simp [noneLater] at h; exact h
theorem regOk_1 {id a b c : Int} {us : List Upd} (h : inB id 1 5 = false) : regOk id a b c us = false := by simp [regOk, h]
theorem regOk_2 {id a b c : Int} {us : List Upd} (h : stOk a b c = false) : regOk id a b c us = false := by simp [regOk, h]
theorem regOk_3 {id a b c : Int} {us : List Upd} (h : ¬ c = id) : regOk id a b c us = false := by simp [regOk, h]
theorem regOk_4 {id a b c : Int} {us : List Upd} (h : setOk us = false) : regOk id a b c us = false := by simp [regOk, h]
theorem regOk_5 {id a b c : Int} {us : List Upd} (h1 : inB id 1 5 = true) (h2 : stOk a b c = true) (h3 : c = id) (h4 : setOk us = true) : regOk id a b c us = noneLater us a b := by unfold regOk; rw [h1, h2, h4, decide_eq_true h3]; rfl
end M1

namespace Go.Proofs.Ytdpeopmbboogaaa
open Go.ChangeShapes Go.WideShapes Go.ChangeAt Go.RowKit
set_option linter.unusedSimpArgs false

end Go.Proofs.Ytdpeopmbboogaaa

namespace Go.Proofs.Ytdpeopmbboogaaa
open Go.ChangeShapes Go.WideShapes Go.ChangeAt Go.RowKit
set_option linter.unusedSimpArgs false

end Go.Proofs.Ytdpeopmbboogaaa

namespace Go.Proofs.Ytdpeopmbboogaaa
open Go.ChangeShapes Go.WideShapes Go.ChangeAt Go.RowKit
set_option linter.unusedSimpArgs false
set_option linter.unusedVariables false

theorem noUpds (w : World) : IsUpds w none 0 0 [] := ⟨rfl, Nat.le_refl _, Nat.zero_le _, fun _ hi => absurd hi (Nat.not_lt_zero _), Or.inl rfl⟩
theorem noMU (w : World) (lo hi : Nat) (f : Nat → Value) : MU w none 0 0 lo hi f := ⟨Nat.le_refl _, Nat.zero_le _, Or.inl ⟨rfl, rfl⟩⟩

/-- The cells of the regions 1, 2 and so on that have nothing. -/
def rcell (o : Nat) : Value := if o % 5 = 4 then .slice none 0 0 else if o % 5 = 0 ∨ o % 5 = 3 then .int .i64 (((o / 5 : Nat) : Int) + 1) else .int .i64 0
theorem rcell0 (p : Nat) : rcell (p * 5) = .int .i64 ((p : Int) + 1) := by
  unfold rcell; rw [if_neg (by omega), if_pos (by omega), show p * 5 / 5 = p by omega]
theorem rcell1 (p : Nat) : rcell (p * 5 + 1) = .int .i64 0 := by
  unfold rcell; rw [if_neg (by omega), if_neg (by omega)]
theorem rcell2 (p : Nat) : rcell (p * 5 + 2) = .int .i64 0 := by
  unfold rcell; rw [if_neg (by omega), if_neg (by omega)]
theorem rcell3 (p : Nat) : rcell (p * 5 + 3) = .int .i64 ((p : Int) + 1) := by
  unfold rcell; rw [if_neg (by omega), if_pos (by omega), show (p * 5 + 3) / 5 = p by omega]
theorem rcell4 (p : Nat) : rcell (p * 5 + 4) = .slice none 0 0 := by
  unfold rcell; rw [if_pos (by omega)]
/-- The cells of such regions when they are marked from k on. -/
def nmc (k : Int) (o : Nat) : Value := if o % 5 = 4 then .slice none 0 0 else .int .i64 (k + ((4 * (o / 5) + o % 5 : Nat) : Int))
theorem nmc_at (k : Int) (p j : Nat) (h : j < 4) : nmc k (p * 5 + j) = .int .i64 (k + 4 * (p : Int) + j) := by
  unfold nmc
  rw [if_neg (by omega), show (p * 5 + j) / 5 = p by omega, show (p * 5 + j) % 5 = j by omega]
  exact congrArg (fun z => Value.int .i64 z) (by omega)
theorem nmc4 (k : Int) (p : Nat) : nmc k (p * 5 + 4) = .slice none 0 0 := by
  unfold nmc; rw [if_pos (by omega)]

/-- A list of regions in a row of its own (or none). -/
def MG (w : World) (av : Option Addr) (n cap lo hi : Nat) (f : Nat → Value) : Prop :=
  n ≤ cap ∧ cap ≤ maxLen ∧ ((n = 0 ∧ av = none) ∨ ∃ g, av = some ⟨g, 0, none⟩ ∧ lo ≤ g ∧ g < hi ∧ RowAt w g (n * 5) f)
theorem MG.below {w w' : World} {av : Option Addr} {n cap lo hi : Nat} {f : Nat → Value} (h : MG w av n cap lo hi f) (hb : Below w.heap.size w w') : MG w' av n cap lo hi f :=
  ⟨h.1, h.2.1, h.2.2.imp id fun ⟨g, e, h1, h2, r⟩ => ⟨g, e, h1, h2, r.below hb⟩⟩

end Go.Proofs.Ytdpeopmbboogaaa

namespace Go.Proofs.Ytdpeopmbboogaaa
open Go.ChangeShapes Go.WideShapes Go.ChangeAt Go.RowKit
set_option linter.unusedSimpArgs false
set_option linter.unusedVariables false

/-- The cells of an update's span; of a row of spans. -/
def scs (u : M1.Upd) : List Value := [.int .i64 u.id, .int .i64 u.pa, .string u.s, .int .i64 u.st, .int .i64 u.en]
def scell (us : List M1.Upd) (o : Nat) : Value := (scs (M1.up us (o / 5))).getD (o % 5) undef
theorem scell_at (us : List M1.Upd) (k j : Nat) (h : j < 5) : scell us (k * 5 + j) = (scs (M1.up us k)).getD j undef := by
  unfold scell
  rw [show (k * 5 + j) / 5 = k by omega, show (k * 5 + j) % 5 = j by omega]
def smc (k : Int) (o : Nat) : Value := if o % 5 = 2 then .string (M1.mtext (k + o)) else .int .i64 (k + o)
theorem smc_int (k : Int) (o : Nat) (h : ¬ o % 5 = 2) : smc k o = .int .i64 (k + o) := if_neg h
theorem smc_str (k : Int) (o : Nat) (h : o % 5 = 2) : smc k o = .string (M1.mtext (k + o)) := if_pos h

end Go.Proofs.Ytdpeopmbboogaaa
