/-
  Contracts of the laws' readers and markers of new worlds: regions that have nothing, and no mail.
-/
import Derived.Test.YtnchbndgdkhldaaZSpansOf27
namespace Go.Proofs.Ytnchbndgdkhldaa
open Go.ChangeShapes Go.WideShapes Go.ChangeAt Go.RowKit
set_option linter.unusedSimpArgs false
set_option linter.unusedVariables false

theorem noUpds (w : World) : IsUpds w none 0 0 [] := ⟨rfl, Nat.le_refl _, Nat.zero_le _, fun _ hi => absurd hi (Nat.not_lt_zero _), Or.inl rfl⟩
theorem noMU (w : World) (lo hi : Nat) (f : Nat → Value) : MU w none 0 0 lo hi f := ⟨Nat.le_refl _, Nat.zero_le _, Or.inl ⟨rfl, rfl⟩⟩

/-- The cells of the regions 1, 2 and so on that have nothing. -/
def rcell (o : Nat) : Value := if o % 5 = 4 then .slice none 0 0 else if o % 5 = 0 ∨ o % 5 = 3 then .int .i64 (((o / 5 : Nat) : Int) + 1) else .int .i64 0
theorem rcell0 (p : Nat) : rcell (p * 5) = .int .i64 ((p : Int) + 1) := by
  unfold rcell; rw [if_neg (by omega), if_pos (by omega), show p * 5 / 5 = p by omega]
theorem rcell1 (p : Nat) : rcell (p * 5 + 1) = .int .i64 0 := by
  unfold rcell; rw [if_neg (by omega), if_neg (by omega)]
theorem rcell2 (p : Nat) : rcell (p * 5 + 2) = .int .i64 0 := by
  unfold rcell; rw [if_neg (by omega), if_neg (by omega)]
theorem rcell3 (p : Nat) : rcell (p * 5 + 3) = .int .i64 ((p : Int) + 1) := by
  unfold rcell; rw [if_neg (by omega), if_pos (by omega), show (p * 5 + 3) / 5 = p by omega]
theorem rcell4 (p : Nat) : rcell (p * 5 + 4) = .slice none 0 0 := by
  unfold rcell; rw [if_pos (by omega)]
/-- The cells of such regions when they are marked from k on. -/
def nmc (k : Int) (o : Nat) : Value := if o % 5 = 4 then .slice none 0 0 else .int .i64 (k + ((4 * (o / 5) + o % 5 : Nat) : Int))
theorem nmc_at (k : Int) (p j : Nat) (h : j < 4) : nmc k (p * 5 + j) = .int .i64 (k + 4 * (p : Int) + j) := by
  unfold nmc
  rw [if_neg (by omega), show (p * 5 + j) / 5 = p by omega, show (p * 5 + j) % 5 = j by omega]
  exact congrArg (fun z => Value.int .i64 z) (by omega)
theorem nmc4 (k : Int) (p : Nat) : nmc k (p * 5 + 4) = .slice none 0 0 := by
  unfold nmc; rw [if_pos (by omega)]

/-- A list of regions in a row of its own (or none). -/
def MG (w : World) (av : Option Addr) (n cap lo hi : Nat) (f : Nat → Value) : Prop :=
  n ≤ cap ∧ cap ≤ maxLen ∧ ((n = 0 ∧ av = none) ∨ ∃ g, av = some ⟨g, 0, none⟩ ∧ lo ≤ g ∧ g < hi ∧ RowAt w g (n * 5) f)
theorem MG.below {w w' : World} {av : Option Addr} {n cap lo hi : Nat} {f : Nat → Value} (h : MG w av n cap lo hi f) (hb : Below w.heap.size w w') : MG w' av n cap lo hi f :=
  ⟨h.1, h.2.1, h.2.2.imp id fun ⟨g, e, h1, h2, r⟩ => ⟨g, e, h1, h2, r.below hb⟩⟩

end Go.Proofs.Ytnchbndgdkhldaa
