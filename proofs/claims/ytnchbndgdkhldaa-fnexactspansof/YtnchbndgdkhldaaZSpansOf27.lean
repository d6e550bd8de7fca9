/-
  Texts of one proof, joined: Math10, Reg1, Reg4.
-/
import Derived.Test.YtnchbndgdkhldaaZSpansOf07
import Derived.Test.YtnchbndgdkhldaaZSpansOf13
import Derived.Test.YtnchbndgdkhldaaZSpansOf16
import Derived.Test.YtnchbndgdkhldaaZSpansOf20
import Derived.Test.YtnchbndgdkhldaaZSpansOf21
import Derived.Test.YtnchbndgdkhldaaZSpansOf26
namespace M1

/-- Is a stamp's time later than a clock's? -/
def laterB (sw sc a b : Int) : Bool := decide (a < sw) || (decide (sw = a) && decide (b < sc))
def noneLater (us : List Upd) (a b : Int) : Bool := (List.range us.length).all fun j => !laterB (up us j).sw (up us j).sc a b
def regOk (id a b c : Int) (us : List Upd) : Bool := inB id 1 5 && stOk a b c && decide (c = id) && setOk us && noneLater us a b

theorem noneLater_yes {us : List Upd} {a b : Int} (h : ∀ j, j < us.length → laterB (up us j).sw (up us j).sc a b = false) : noneLater us a b = true := by
  simp [noneLater]; exact h
theorem noneLater_no {us : List Upd} {a b : Int} {j : Nat} (hj : j < us.length) (h : laterB (up us j).sw (up us j).sc a b = true) : noneLater us a b = false := by
  simp [noneLater]; exact ⟨j, hj, h⟩
theorem noneLater_all {us : List Upd} {a b : Int} (h : noneLater us a b = true) : ∀ j, j < us.length → laterB (up us j).sw (up us j).sc a b = false := by
  simp [noneLater] at h; exact h
theorem regOk_1 {id a b c : Int} {us : List Upd} (h : inB id 1 5 = false) : regOk id a b c us = false := by simp [regOk, h]
theorem regOk_2 {id a b c : Int} {us : List Upd} (h : stOk a b c = false) : regOk id a b c us = false := by simp [regOk, h]
theorem regOk_3 {id a b c : Int} {us : List Upd} (h : ¬ c = id) : regOk id a b c us = false := by simp [regOk, h]
theorem regOk_4 {id a b c : Int} {us : List Upd} (h : setOk us = false) : regOk id a b c us = false := by simp [regOk, h]
theorem regOk_5 {id a b c : Int} {us : List Upd} (h1 : inB id 1 5 = true) (h2 : stOk a b c = true) (h3 : c = id) (h4 : setOk us = true) : regOk id a b c us = noneLater us a b := by unfold regOk; rw [h1, h2, h4, decide_eq_true h3]; rfl
end M1

namespace Go.Proofs.Ytnchbndgdkhldaa
open Go.ChangeShapes Go.WideShapes Go.ChangeAt Go.RowKit
set_option linter.unusedSimpArgs false

end Go.Proofs.Ytnchbndgdkhldaa

namespace Go.Proofs.Ytnchbndgdkhldaa
open Go.ChangeShapes Go.WideShapes Go.ChangeAt Go.RowKit
set_option linter.unusedSimpArgs false

end Go.Proofs.Ytnchbndgdkhldaa
