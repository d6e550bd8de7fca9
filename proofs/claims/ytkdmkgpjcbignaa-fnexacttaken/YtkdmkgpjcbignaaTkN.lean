/-
  The contract of the program's Taken where it refuses.
-/
import Derived.Test.YtkdmkgpjcbignaaAllR
import Derived.Test.YtkdmkgpjcbignaaVecU
namespace Go.Proofs.Ytkdmkgpjcbignaa
open Go.ChangeShapes Go.WideShapes Go.ChangeAt Go.RowKit
set_option linter.unusedSimpArgs false
set_option linter.unusedVariables false

set_option maxHeartbeats 8000000 in
set_option maxRecDepth 100000 in
theorem taken_no (av bv : Option Addr) (n cn m cm : Nat) (xs ys : List M1.Upd) (w : World) (h1 : IsUpds w av n cn xs) (h2 : IsUpds w bv m cm ys) (hp : M1.tpre xs ys = false) :
    Calls Try.prog 21 #[.slice av n cn, .slice bv m cm] w fun e w' => Jd w w' e [] false ∧ Below w.heap.size w w' := by
  have hl2 : Hid (ys.length = m) := h2.hlen
  have hm3 := h2.hcap
  have hm4 := h2.hmost
  unfold maxLen at hm4
  by_cases hs1 : M1.setOk xs = true
  · by_cases hm60 : m ≤ 60
    · have hgt : decide ((60 : Int) < (m : Int)) = false := decide_eq_false (by omega)
      have hgt2 : decide (60 < m) = false := decide_eq_false (by omega)
      have hs3 : M1.allR ys = false := by
        have : ys.length ≤ 60 := by have := hl2.out; omega
        simpa [M1.tpre, hs1, this] using hp
      go_enter Try.func21, Try.ntmps21
      go_wp2_with fail
      refine (setOk_impl _ _ _ _ _ h1).mono ?_
      rw [hs1]
      rintro e w1 ⟨rfl, hb1⟩
      go_wp2_with fail
      refine (allRight_any _ _ _ _ _ (h2.below hb1)).mono ?_
      rw [hs3]
      rintro e w2 ⟨rfl, hb2⟩
      have B2 := hb1.trans (hb2.mono hb1.size)
      go_wp2_with fail
      exact bodyPost_ret (v := .tuple #[.slice none 0 0, .bool false]) (by simp [results, Try.results21, go_sem]) rfl ⟨jd_nil _ _, B2⟩
    · have hgt : decide ((60 : Int) < (m : Int)) = true := decide_eq_true (by omega)
      have hgt2 : decide (60 < m) = true := decide_eq_true (by omega)
      go_enter Try.func21, Try.ntmps21
      go_wp2_with fail
      refine (setOk_impl _ _ _ _ _ h1).mono ?_
      rw [hs1]
      rintro e w1 ⟨rfl, hb1⟩
      go_wp2_with fail
      exact bodyPost_ret (v := .tuple #[.slice none 0 0, .bool false]) (by simp [results, Try.results21, go_sem]) rfl ⟨jd_nil _ _, hb1⟩
  · replace hs1 : M1.setOk xs = false := by simpa using hs1
    go_enter Try.func21, Try.ntmps21
    go_wp2_with fail
    refine (setOk_impl _ _ _ _ _ h1).mono ?_
    rw [hs1]
    rintro e w1 ⟨rfl, hb1⟩
    go_wp2_with fail
    exact bodyPost_ret (v := .tuple #[.slice none 0 0, .bool false]) (by simp [results, Try.results21, go_sem]) rfl ⟨jd_nil _ _, hb1⟩
end Go.Proofs.Ytkdmkgpjcbignaa
