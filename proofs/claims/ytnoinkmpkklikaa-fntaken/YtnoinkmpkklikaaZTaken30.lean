/-
  The contracts of the draws of two sets: parts of one list, with short texts.
-/
import Derived.Test.YtnoinkmpkklikaaZTaken29
namespace Go.Proofs.Ytnoinkmpkklikaa
open Go.ChangeShapes Go.WideShapes Go.ChangeAt Go.RowKit
set_option linter.unusedSimpArgs false
set_option linter.unusedVariables false

theorem mu_ne {w : World} {av : Option Addr} {n cap lo hi g : Nat} {f : Nat → Value} (h : MU w av n cap lo hi f) (hg : g < lo) : ∀ q, av = some q → ¬ q.block = g := fun q e => by
  rcases h.2.2 with ⟨_, e2⟩ | ⟨k, e2, h1, _, _⟩
  · rw [e] at e2; cases e2
  · rw [e] at e2; injection e2 with e2; rw [e2]; show ¬ k = g; omega

/-- Two lists, each with short texts. -/
def Two (w w' : World) (e : Ending) : Prop := ∃ (bv : Option Addr) (c : Nat) (us : List M1.Upd) (dv : Option Addr) (dc : Nat) (vs : List M1.Upd), e = .returned (.tuple #[.slice bv us.length c, .slice dv vs.length dc]) ∧ us.length ≤ 14 ∧ vs.length ≤ 14 ∧ Short us ∧ Short vs ∧ IsUpds w' bv us.length c us ∧ IsUpds w' dv vs.length dc vs ∧ Below w.heap.size w w'

set_option maxHeartbeats 8000000 in
set_option maxRecDepth 100000 in
theorem drawJoined_any (av : Option Addr) (len cap : Nat) (w : World) (h : IsBytes w av len cap) :
    Calls Try.prog 7 #[.slice av len cap] w fun e w' => Two w w' e := by
  go_enter Try.func7, Try.ntmps7
  go_wp2_with fail
  refine (l1Open_any _ _ _ _ h).mono ?_
  rintro e w1 ⟨rfl, hR1, hb1⟩
  have hgl := hR1.lt
  go_wp2_with fail
  refine (all_any _ _ _ _ _ _ hR1 (by omega) (by omega)).mono ?_
  rintro e w2 ⟨lv, lc, ls, rfl, hn, hsh, h3, mu2, hR2, hG2⟩
  have hs2 := hG2.size
  go_wp2_with fail
  refine (some_any _ _ _ _ _ _ _ ls _ hR2 (mu2.upds rfl hsh.max) hsh h3 (by omega) (mu_ne mu2 (by omega))).mono ?_
  rintro e w3 ⟨bv, c, us, rfl, hul, hush, _, mus3, hR3, hG3⟩
  have mu3 := mu2.gr hG3 (by omega)
  have hG3' := gr_trans hG2 hG3
  have hs3 := hG3.size
  go_wp2_with fail
  refine (some_any _ _ _ _ _ _ _ ls _ hR3 (mu3.upds rfl hsh.max) hsh h3 (by omega) (mu_ne mu3 (by omega))).mono ?_
  rintro e w4 ⟨dv, dc, vs, rfl, hvl, hvsh, _, mus4, hR4, hG4⟩
  have muu := mus3.gr hG4 (by omega)
  have hG4' := gr_trans hG3' hG4
  go_wp2_with fail
  refine bodyPost_ret (v := .tuple #[.slice bv us.length c, .slice dv vs.length dc]) (by simp [results, Try.results7, go_sem]) rfl ?_
  exact ⟨bv, c, us, dv, dc, vs, rfl, by omega, by omega, hush, hvsh, muu.upds rfl hush.max, mus4.upds rfl hvsh.max, hb1.trans (gr_to hG4' hb1.size (by omega))⟩

set_option maxHeartbeats 8000000 in
set_option maxRecDepth 100000 in
theorem drawAgree_any (av : Option Addr) (len cap : Nat) (w : World) (h : IsBytes w av len cap) :
    Calls Try.prog 21 #[.slice av len cap] w fun e w' => Two w w' e := by
  go_enter Try.func21, Try.ntmps21
  go_wp2_with fail
  refine (drawJoined_any _ _ _ _ h).mono ?_
  rintro e w1 ⟨bv, c, us, dv, dc, vs, rfl, h1, h2, h3, h4, h5, h6, h7⟩
  go_wp2_with fail
  refine bodyPost_ret (v := .tuple #[.slice bv us.length c, .slice dv vs.length dc]) (by simp [results, Try.results21, go_sem]) rfl ?_
  exact ⟨bv, c, us, dv, dc, vs, rfl, h1, h2, h3, h4, h5, h6, h7⟩
end Go.Proofs.Ytnoinkmpkklikaa
