/-
  The contract of the draw of a set of spans and a trace; of the laws' sameSpans on lists that are the same.
-/
import Derived.Test.YtnchbndgdkhldaaZSpans31
import Derived.Test.YtnchbndgdkhldaaZSpans28
import Derived.Test.YtnchbndgdkhldaaZSpans34
import Derived.Test.YtnchbndgdkhldaaZSpans39
namespace Go.Proofs.Ytnchbndgdkhldaa
open Go.ChangeShapes Go.WideShapes Go.ChangeAt Go.RowKit
set_option linter.unusedSimpArgs false
set_option linter.unusedVariables false

/-- A list with short texts, and a number. -/
def OneT (w w' : World) (e : Ending) : Prop := ∃ (bv : Option Addr) (c : Nat) (us : List M1.Upd) (t : Int), e = .returned (.tuple #[.slice bv us.length c, .int .i64 t]) ∧ us.length ≤ 12 ∧ Short us ∧ IsUpds w' bv us.length c us ∧ Below w.heap.size w w'

set_option maxHeartbeats 8000000 in
set_option maxRecDepth 100000 in
theorem drawSpansOf_any (av : Option Addr) (len cap : Nat) (w : World) (h : IsBytes w av len cap) :
    Calls Try.prog 9 #[.slice av len cap] w fun e w' => OneT w w' e := by
  go_enter Try.func9, Try.ntmps9
  go_wp2_with fail
  refine (l1Open_any _ _ _ _ h).mono ?_
  rintro e w1 ⟨rfl, hR1, hb1⟩
  have hgl := hR1.lt
  go_wp2_with fail
  refine (spans_any _ _ _ _ _ _ hR1 (by omega) (by omega)).mono ?_
  rintro e w2 ⟨bv, c, us, rfl, hn, hsh, mu2, hR2, hG2⟩
  have hs2 := hG2.size
  go_wp2_with fail
  refine (below_any _ _ _ _ _ _ hR2 (by omega) (by omega)).mono ?_
  rintro e w3 ⟨x, rfl, x0, x1, hR3, hG3⟩
  have mu3 := mu2.gr hG3 (by omega)
  have hG3' := gr_trans hG2 hG3
  go_wp2_with fail
  refine bodyPost_ret (v := .tuple #[.slice bv us.length c, .int .i64 (1 + x)]) (by simp [results, Try.results9, go_sem]) rfl ?_
  exact ⟨bv, c, us, 1 + x, rfl, by omega, hsh, mu3.upds rfl hsh.max, hb1.trans (gr_to hG3' hb1.size (by omega))⟩

theorem drawForestOf_any (av : Option Addr) (len cap : Nat) (w : World) (h : IsBytes w av len cap) :
    Calls Try.prog 15 #[.slice av len cap] w fun e w' => OneT w w' e := by
  go_enter Try.func15, Try.ntmps15
  go_wp2_with fail
  refine (drawSpansOf_any _ _ _ _ h).mono ?_
  rintro e w1 ⟨bv, c, us, t, rfl, h1, h2, h3, h4⟩
  go_wp2_with fail
  refine bodyPost_ret (v := .tuple #[.slice bv us.length c, .int .i64 t]) (by simp [results, Try.results15, go_sem]) rfl ?_
  exact ⟨bv, c, us, t, rfl, h1, h2, h3, h4⟩

set_option maxHeartbeats 4000000 in
theorem sameSpans_self (av bv : Option Addr) (n cn cm lo hi lo2 hi2 : Nat) (us : List M1.Upd) (w : World) (h1 : MG w av n cn lo hi (scell us)) (h2 : MG w bv n cm lo2 hi2 (scell us)) :
    Calls Try.prog 11 #[.slice av n cn, .slice bv n cm] w fun e w' => e = .returned (.bool true) ∧ Below w.heap.size w w' := by
  have hm1 := h1.1
  have hm2 := h1.2.1
  have hm3 := h2.1
  have hm4 := h2.2.1
  unfold maxLen at hm2 hm4
  have hnb : ((n : Int) != (n : Int)) = false := by simp
  go_enter Try.func11, Try.ntmps11
  go_wp2_with fail
  go_loopw [5] (fun i wr => ∃ p : Nat, p ≤ n ∧ i = .int .i64 p ∧ Below w.heap.size w wr) (fun i _ => n - (intOf i).toNat)
  case atStart => exact ⟨0, Nat.zero_le _, rfl, Below.refl _ _⟩
  case round =>
    obtain ⟨p, hp, rfl, hB⟩ := hrel
    by_cases hlt : p < n
    · have g1 := h1.below hB
      have g2 := h2.below hB
      rcases g1.2.2 with ⟨h0, _⟩ | ⟨g, rfl, _, _, r1⟩
      · omega
      rcases g2.2.2 with ⟨h0, _⟩ | ⟨gg, rfl, _, _, r2⟩
      · omega
      have hgl := r1.lt
      have hgl2 := r2.lt
      have i0 : (0 : Int) ≤ (p : Int) := by omega
      have i1 : (p : Int) < (n : Int) := by omega
      have z0 : scell us (p * 5) = .int .i64 (M1.up us p).id := scell_at us p 0 (by omega)
      have z1 : scell us (p * 5 + 1) = .int .i64 (M1.up us p).pa := scell_at us p 1 (by omega)
      have z2 : scell us (p * 5 + 2) = .string (M1.up us p).s := scell_at us p 2 (by omega)
      have z3 : scell us (p * 5 + 3) = .int .i64 (M1.up us p).st := scell_at us p 3 (by omega)
      have z4 : scell us (p * 5 + 4) = .int .i64 (M1.up us p).en := scell_at us p 4 (by omega)
      have d0 := r1.cell (o := p * 5) (by omega)
      have d1 := r1.cell (o := p * 5 + 1) (by omega)
      have d2 := r1.cell (o := p * 5 + 2) (by omega)
      have d3 := r1.cell (o := p * 5 + 3) (by omega)
      have d4 := r1.cell (o := p * 5 + 4) (by omega)
      have c0 := r2.cell (o := p * 5) (by omega)
      have c1 := r2.cell (o := p * 5 + 1) (by omega)
      have c2 := r2.cell (o := p * 5 + 2) (by omega)
      have c3 := r2.cell (o := p * 5 + 3) (by omega)
      have c4 := r2.cell (o := p * 5 + 4) (by omega)
      rw [z0] at d0 c0
      rw [z1] at d1 c1
      rw [z2] at d2 c2
      rw [z3] at d3 c3
      rw [z4] at d4 c4
      clear z0 z1 z2 z3 z4 g1 g2
      go_wp2_with fail
      go_region_held3 (fun w' => Kp wr w') (first | exact kp_zero _ | exact kp_drew (by assumption) | exact kp_step (by assumption) (by assumption)) (fail)
      rename_i hK
      have hB' := hB.trans (hK.1.mono hB.size)
      go_wp2_with fail
      exact ⟨⟨p + 1, by omega, by go_num, hB'⟩, by simp [intOf]; omega⟩
    · go_wp2_with fail
      go_ret
      exact ⟨rfl, hB⟩
end Go.Proofs.Ytnchbndgdkhldaa
