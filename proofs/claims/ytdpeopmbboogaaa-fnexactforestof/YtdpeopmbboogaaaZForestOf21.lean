/-
  Texts of one proof, joined: Math10, Reg1, Reg4, Wn1, Sp1.
-/
import Derived.Test.YtdpeopmbboogaaaZForestOf01
import Derived.Test.YtdpeopmbboogaaaZForestOf16
import Derived.Test.YtdpeopmbboogaaaZForestOf19
import Derived.Test.YtdpeopmbboogaaaZForestOf06
import Derived.Test.YtdpeopmbboogaaaZForestOf20
import Derived.Test.YtdpeopmbboogaaaZForestOf10
import Derived.Test.YtdpeopmbboogaaaZForestOf08
namespace M1

/-- Is a stamp's time later than a clock's? -/
def laterB (sw sc a b : Int) : Bool := decide (a < sw) || (decide (sw = a) && decide (b < sc))
def noneLater (us : List Upd) (a b : Int) : Bool := (List.range us.length).all fun j => !laterB (up us j).sw (up us j).sc a b
def regOk (id a b c : Int) (us : List Upd) : Bool := inB id 1 5 && stOk a b c && decide (c = id) && setOk us && noneLater us a b

theorem noneLater_yes {us : List Upd} {a b : Int} (h : ∀ j, j < us.length → laterB (up us j).sw (up us j).sc a b = false) : noneLater us a b = true := by
  simp [noneLater]; exact h
theorem noneLater_no {us : List Upd} {a b : Int} {j : Nat} (hj : j < us.length) (h : laterB (up us j).sw (up us j).sc a b = true) : noneLater us a b = false := by
  simp [noneLater]; exact ⟨j, hj, h⟩
theorem noneLater_all {us : List Upd} {a b : Int} (h : noneLater us a b = true) : ∀ j, j < us.length → laterB (up us j).sw (up us j).sc a b = false := by
  simp [noneLater] at h; exact h
theorem regOk_1 {id a b c : Int} {us : List Upd} (h : inB id 1 5 = false) : regOk id a b c us = false := by simp [regOk, h]
theorem regOk_2 {id a b c : Int} {us : List Upd} (h : stOk a b c = false) : regOk id a b c us = false := by simp [regOk, h]
theorem regOk_3 {id a b c : Int} {us : List Upd} (h : ¬ c = id) : regOk id a b c us = false := by simp [regOk, h]
theorem regOk_4 {id a b c : Int} {us : List Upd} (h : setOk us = false) : regOk id a b c us = false := by simp [regOk, h]
theorem regOk_5 {id a b c : Int} {us : List Upd} (h1 : inB id 1 5 = true) (h2 : stOk a b c = true) (h3 : c = id) (h4 : setOk us = true) : regOk id a b c us = noneLater us a b := by unfold regOk; rw [h1, h2, h4, decide_eq_true h3]; rfl
end M1

namespace Go.Proofs.Ytdpeopmbboogaaa
open Go.ChangeShapes Go.WideShapes Go.ChangeAt Go.RowKit
set_option linter.unusedSimpArgs false

end Go.Proofs.Ytdpeopmbboogaaa

namespace Go.Proofs.Ytdpeopmbboogaaa
open Go.ChangeShapes Go.WideShapes Go.ChangeAt Go.RowKit
set_option linter.unusedSimpArgs false

end Go.Proofs.Ytdpeopmbboogaaa

namespace Go.Proofs.Ytdpeopmbboogaaa
open Go.ChangeShapes Go.WideShapes Go.ChangeAt Go.RowKit
set_option linter.unusedSimpArgs false
set_option linter.unusedVariables false

theorem noUpds (w : World) : IsUpds w none 0 0 [] := ⟨rfl, Nat.le_refl _, Nat.zero_le _, fun _ hi => absurd hi (Nat.not_lt_zero _), Or.inl rfl⟩
theorem noMU (w : World) (lo hi : Nat) (f : Nat → Value) : MU w none 0 0 lo hi f := ⟨Nat.le_refl _, Nat.zero_le _, Or.inl ⟨rfl, rfl⟩⟩

/-- The cells of the regions 1, 2 and so on that have nothing. -/
def rcell (o : Nat) : Value := if o % 5 = 4 then .slice none 0 0 else if o % 5 = 0 ∨ o % 5 = 3 then .int .i64 (((o / 5 : Nat) : Int) + 1) else .int .i64 0
theorem rcell0 (p : Nat) : rcell (p * 5) = .int .i64 ((p : Int) + 1) := by
  unfold rcell; rw [if_neg (by omega), if_pos (by omega), show p * 5 / 5 = p by omega]
theorem rcell1 (p : Nat) : rcell (p * 5 + 1) = .int .i64 0 := by
  unfold rcell; rw [if_neg (by omega), if_neg (by omega)]
theorem rcell2 (p : Nat) : rcell (p * 5 + 2) = .int .i64 0 := by
  unfold rcell; rw [if_neg (by omega), if_neg (by omega)]
theorem rcell3 (p : Nat) : rcell (p * 5 + 3) = .int .i64 ((p : Int) + 1) := by
  unfold rcell; rw [if_neg (by omega), if_pos (by omega), show (p * 5 + 3) / 5 = p by omega]
theorem rcell4 (p : Nat) : rcell (p * 5 + 4) = .slice none 0 0 := by
  unfold rcell; rw [if_pos (by omega)]
/-- The cells of such regions when they are marked from k on. -/
def nmc (k : Int) (o : Nat) : Value := if o % 5 = 4 then .slice none 0 0 else .int .i64 (k + ((4 * (o / 5) + o % 5 : Nat) : Int))
theorem nmc_at (k : Int) (p j : Nat) (h : j < 4) : nmc k (p * 5 + j) = .int .i64 (k + 4 * (p : Int) + j) := by
  unfold nmc
  rw [if_neg (by omega), show (p * 5 + j) / 5 = p by omega, show (p * 5 + j) % 5 = j by omega]
  exact congrArg (fun z => Value.int .i64 z) (by omega)
theorem nmc4 (k : Int) (p : Nat) : nmc k (p * 5 + 4) = .slice none 0 0 := by
  unfold nmc; rw [if_pos (by omega)]

/-- A list of regions in a row of its own (or none). -/
def MG (w : World) (av : Option Addr) (n cap lo hi : Nat) (f : Nat → Value) : Prop :=
  n ≤ cap ∧ cap ≤ maxLen ∧ ((n = 0 ∧ av = none) ∨ ∃ g, av = some ⟨g, 0, none⟩ ∧ lo ≤ g ∧ g < hi ∧ RowAt w g (n * 5) f)
theorem MG.below {w w' : World} {av : Option Addr} {n cap lo hi : Nat} {f : Nat → Value} (h : MG w av n cap lo hi f) (hb : Below w.heap.size w w') : MG w' av n cap lo hi f :=
  ⟨h.1, h.2.1, h.2.2.imp id fun ⟨g, e, h1, h2, r⟩ => ⟨g, e, h1, h2, r.below hb⟩⟩

end Go.Proofs.Ytdpeopmbboogaaa

namespace Go.Proofs.Ytdpeopmbboogaaa
open Go.ChangeShapes Go.WideShapes Go.ChangeAt Go.RowKit
set_option linter.unusedSimpArgs false
set_option linter.unusedVariables false

/-- The cells of an update's span; of a row of spans. -/
def scs (u : M1.Upd) : List Value := [.int .i64 u.id, .int .i64 u.pa, .string u.s, .int .i64 u.st, .int .i64 u.en]
def scell (us : List M1.Upd) (o : Nat) : Value := (scs (M1.up us (o / 5))).getD (o % 5) undef
theorem scell_at (us : List M1.Upd) (k j : Nat) (h : j < 5) : scell us (k * 5 + j) = (scs (M1.up us k)).getD j undef := by
  unfold scell
  rw [show (k * 5 + j) / 5 = k by omega, show (k * 5 + j) % 5 = j by omega]
def smc (k : Int) (o : Nat) : Value := if o % 5 = 2 then .string (M1.mtext (k + o)) else .int .i64 (k + o)
theorem smc_int (k : Int) (o : Nat) (h : ¬ o % 5 = 2) : smc k o = .int .i64 (k + o) := if_neg h
theorem smc_str (k : Int) (o : Nat) (h : o % 5 = 2) : smc k o = .string (M1.mtext (k + o)) := if_pos h

end Go.Proofs.Ytdpeopmbboogaaa
