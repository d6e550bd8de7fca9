/-
  Texts of one proof, joined: Math10, Reg1.
-/
import Derived.Test.YtpookiebkiigcaaZWorldNew07
import Derived.Test.YtpookiebkiigcaaZWorldNew13
import Derived.Test.YtpookiebkiigcaaZWorldNew16
import Derived.Test.YtpookiebkiigcaaZWorldNew19
import Derived.Test.YtpookiebkiigcaaZWorldNew20
import Derived.Test.YtpookiebkiigcaaZWorldNew25
namespace M1

/-- Is a stamp's time later than a clock's? -/
def laterB (sw sc a b : Int) : Bool := decide (a < sw) || (decide (sw = a) && decide (b < sc))
def noneLater (us : List Upd) (a b : Int) : Bool := (List.range us.length).all fun j => !laterB (up us j).sw (up us j).sc a b
def regOk (id a b c : Int) (us : List Upd) : Bool := inB id 1 5 && stOk a b c && decide (c = id) && setOk us && noneLater us a b

theorem noneLater_yes {us : List Upd} {a b : Int} (h : ∀ j, j < us.length → laterB (up us j).sw (up us j).sc a b = false) : noneLater us a b = true := by
  simp [noneLater]; exact h
theorem noneLater_no {us : List Upd} {a b : Int} {j : Nat} (hj : j < us.length) (h : laterB (up us j).sw (up us j).sc a b = true) : noneLater us a b = false := by
  simp [noneLater]; exact ⟨j, hj, h⟩
theorem noneLater_all {us : List Upd} {a b : Int} (h : noneLater us a b = true) : ∀ j, j < us.length → laterB (up us j).sw (up us j).sc a b = false := by
  simp [noneLater] at h; exact h
theorem regOk_1 {id a b c : Int} {us : List Upd} (h : inB id 1 5 = false) : regOk id a b c us = false := by simp [regOk, h]
theorem regOk_2 {id a b c : Int} {us : List Upd} (h : stOk a b c = false) : regOk id a b c us = false := by simp [regOk, h]
theorem regOk_3 {id a b c : Int} {us : List Upd} (h : ¬ c = id) : regOk id a b c us = false := by simp [regOk, h]
theorem regOk_4 {id a b c : Int} {us : List Upd} (h : setOk us = false) : regOk id a b c us = false := by simp [regOk, h]
theorem regOk_5 {id a b c : Int} {us : List Upd} (h1 : inB id 1 5 = true) (h2 : stOk a b c = true) (h3 : c = id) (h4 : setOk us = true) : regOk id a b c us = noneLater us a b := by unfold regOk; rw [h1, h2, h4, decide_eq_true h3]; rfl
end M1

namespace Go.Proofs.Ytpookiebkiigcaa
open Go.ChangeShapes Go.WideShapes Go.ChangeAt Go.RowKit
set_option linter.unusedSimpArgs false

theorem eqRegion_self (id a b c : Int) (av bv : Option Addr) (n cn cm : Nat) (us : List M1.Upd) (w : World) (h1 : IsUpds w av n cn us) (h2 : IsUpds w bv n cm us) :
    Calls Try.prog 31 #[.agg #[.int .i64 id, .int .i64 a, .int .i64 b, .int .i64 c, .slice av n cn], .agg #[.int .i64 id, .int .i64 a, .int .i64 b, .int .i64 c, .slice bv n cm]] w fun e w' => e = .returned (.bool true) ∧ Below w.heap.size w w' := by
  go_enter Try.func31, Try.ntmps31
  go_wp2_with fail
  refine (eqStamp_same _ _ _ _).mono ?_
  rintro e w1 ⟨rfl, hb1⟩
  obtain ⟨hc1, hf1⟩ := bcell hb1
  have hz1 := hb1.size
  simp at hz1
  have hz1a : w.heap.size < w1.heap.size := by omega
  have hz1b : w.heap.size + 1 < w1.heap.size := by omega
  have hB : Below w.heap.size w w1 := by repeat (first | (with_reducible exact Below.refl _ _) | ((with_reducible refine Below.setCell ?_ ?_ _); rotate_left; (focus (first | omega | (simp; done) | (simp; omega)))) | ((with_reducible refine Below.alloc ?_ ?_ _); rotate_left; (focus (first | omega | (simp; done) | (simp; omega)))) | (with_reducible refine Below.drew ?_) | ((with_reducible refine Below.trans ?_ (Below.mono hb1 ?_)); rotate_left; (focus (first | omega | (simp; done) | (simp; omega)))))
  go_wp2_with fail
  refine (eqUpdateS_self _ _ _ _ _ _ _ (h1.below hB) (h2.below hB)).mono ?_
  rintro e w2 ⟨rfl, hb2⟩
  go_wp2_with fail
  go_ret
  refine ⟨rfl, ?_⟩
  repeat (first | (with_reducible exact Below.refl _ _) | ((with_reducible refine Below.setCell ?_ ?_ _); rotate_left; (focus (first | omega | (simp; done) | (simp; omega)))) | ((with_reducible refine Below.alloc ?_ ?_ _); rotate_left; (focus (first | omega | (simp; done) | (simp; omega)))) | (with_reducible refine Below.drew ?_) | ((with_reducible refine Below.trans ?_ (Below.mono hb2 ?_)); rotate_left; (focus (first | omega | (simp; done) | (simp; omega)))) | ((with_reducible refine Below.trans ?_ (Below.mono hB ?_)); rotate_left; (focus (first | omega | (simp; done) | (simp; omega)))))

theorem later_any (sw sc sr a b c : Int) (w : World) :
    Calls Try.prog 106 #[.agg #[.int .i64 sw, .int .i64 sc, .int .i64 sr], .agg #[.int .i64 a, .int .i64 b, .int .i64 c]] w fun e w' => e = .returned (.bool (M1.laterB sw sc a b)) ∧ Below w.heap.size w w' := by
  unfold M1.laterB
  go_enter Try.func106, Try.ntmps106
  go_wp2
  all_goals (go_ret)
  all_goals (exact ⟨by simp_all, ((Below.refl _ _).alloc (Nat.le_refl _) _).alloc (by simp) _⟩)

end Go.Proofs.Ytpookiebkiigcaa
