/-
  For every number the law FnExactWorldNew answers true: WorldNew of the program answers as the model's does, and its answer is memory of its own, behind another call too. No condition.
-/
import Derived.Test.YtpookiebkiigcaaZWorldNew33
import Derived.OpenShut
import Derived.ShutString
import Derived.ChangeOld
import Derived.Lib.SmallJoins
namespace Go.Proofs.Ytpookiebkiigcaa
open Go.ChangeShapes Go.WideShapes Go.ChangeAt Go.RowKit

theorem MG.far {w w' : World} {av bv : Option Addr} {n cap lo hi m cm lo2 hi2 : Nat} {f f2 : Nat → Value} (h : MG w av n cap lo hi f) (h2 : MG w bv m cm lo2 hi2 f2) (hm : MkU bv w w') (hd : hi ≤ lo2) : MG w' av n cap lo hi f := by
  refine ⟨h.1, h.2.1, h.2.2.imp id fun ⟨g, e, h3, h4, r⟩ => ⟨g, e, h3, h4, ?_⟩⟩
  rcases h2.2.2 with ⟨_, e0⟩ | ⟨g2, e2, h5, h6, _⟩
  · exact r.below (hm.1 e0)
  · exact r.gr (hm.2 g2 e2) (by omega)
theorem row_far {w w' : World} {bv : Option Addr} {g k m cm lo2 hi2 : Nat} {f f2 : Nat → Value} (r : RowAt w g k f) (h2 : MG w bv m cm lo2 hi2 f2) (hm : MkU bv w w') (hd : g < lo2 ∨ hi2 ≤ g) : RowAt w' g k f := by
  rcases h2.2.2 with ⟨_, e0⟩ | ⟨g2, e2, h5, h6, _⟩
  · exact r.below (hm.1 e0)
  · exact r.gr (hm.2 g2 e2) (by omega)
theorem below_far {w w' : World} {bv : Option Addr} {B m cm lo2 hi2 : Nat} {f2 : Nat → Value} (h2 : MG w bv m cm lo2 hi2 f2) (hm : MkU bv w w') (hB : B ≤ w.heap.size) (hd : B ≤ lo2) : Below B w w' := by
  rcases h2.2.2 with ⟨_, e0⟩ | ⟨g2, e2, h5, h6, _⟩
  · exact (hm.1 e0).mono hB
  · exact gr_to (hm.2 g2 e2) hB (by omega)
end Go.Proofs.Ytpookiebkiigcaa
namespace Go.Proofs.Ytpookiebkiigcaa.exWorldNew
open Go.ChangeShapes Go.WideShapes Go.ChangeAt Go.RowKit
set_option linter.unusedVariables false
set_option linter.unusedSimpArgs false

set_option maxHeartbeats 8000000 in
set_option maxRecDepth 100000 in
theorem walk (r : Int) (w : World) :
    Calls Try.prog 7 #[.int .i64 r] w fun e w' => e = .returned (.bool true) ∧ Below w.heap.size w w' := by
  obtain ⟨y, hy⟩ : ∃ y : Bool, Hid (M1.inB r 2 5 = y) := ⟨_, rfl⟩
  obtain ⟨N, hN⟩ : ∃ N : Nat, Hid ((if M1.inB r 2 5 = true then r.toNat else 0) = N) := ⟨_, rfl⟩
  have hN5 : N ≤ 5 := by
    rw [← hN.out]
    split
    · rename_i q; have := M1.inB_true q; omega
    · omega
  have hyb : (y != y) = false := by simp
  go_enter Try.func7, Try.ntmps7
  go_wp2_with fail
  refine (worldNew_spec _ _).mono ?_
  rintro e w1 ⟨av, n, c, rfl, hn, m1, hb1⟩
  rw [hN.out] at hn
  subst hn
  rw [hy.out]
  have hs1 := hb1.size
  go_wp2_with fail
  obtain ⟨W2, hW2⟩ : ∃ W, W = (w1.alloc (.cells #[.int .i64 0, .slice av n c, .slice none 0 0] 28)) := ⟨_, rfl⟩
  have bb2 : Below w1.heap.size w1 W2 := by rw [hW2]; exact (Below.refl _ _).alloc (Nat.le_refl _) _
  have hz2 : W2.heap.size = w1.heap.size + 1 := by rw [hW2]; simp
  have rw2 : RowAt W2 w1.heap.size 3 (fun o => (#[.int .i64 0, .slice av n c, .slice none 0 0] : Array Value).getD o undef) := by rw [hW2]; exact RowAt.new w1 _ _
  rw [← hW2]
  clear hW2
  have m2 := m1.below bb2
  have B2 := hb1.trans (bb2.mono hb1.size)
  clear m1 hb1 bb2
  refine (worldNew_impl _ _).mono ?_
  rintro e w3 ⟨bv, n', d, rfl, hn, m3, hb3⟩
  rw [hN.out] at hn
  subst hn
  rw [hy.out]
  have m1 := m2.below hb3
  have p3 := rw2.below hb3
  have hs3 := hb3.size
  have B3 := B2.trans (hb3.mono B2.size)
  clear m2 rw2 B2 hb3
  have c0 := p3.cell (o := 0) (by omega)
  have c1 := p3.cell (o := 1) (by omega)
  have c2 := p3.cell (o := 2) (by omega)
  simp at c0 c1 c2
  have cl := p3.lt
  go_wp2_with fail
  clear c0 c1 c2 cl
  obtain ⟨W4, hW4⟩ : ∃ W, W = (w3.alloc (.cells #[.int .i64 0, .slice bv n' d, .slice none 0 0] 28)) := ⟨_, rfl⟩
  have bb4 : Below w3.heap.size w3 W4 := by rw [hW4]; exact (Below.refl _ _).alloc (Nat.le_refl _) _
  have hz4 : W4.heap.size = w3.heap.size + 1 := by rw [hW4]; simp
  have rw4 : RowAt W4 w3.heap.size 3 (fun o => (#[.int .i64 0, .slice bv n' d, .slice none 0 0] : Array Value).getD o undef) := by rw [hW4]; exact RowAt.new w3 _ _
  rw [← hW4]
  clear hW4
  have p4 := p3.below bb4
  have m4 := m1.below bb4
  have k4 := m3.below bb4
  have B4 := B3.trans (bb4.mono B3.size)
  clear p3 m1 m3 B3 bb4
  refine (eqWorld_new _ _ _ _ _ _ _ _ _ _ k4 m4).mono ?_
  rintro e w5 ⟨rfl, hb5⟩
  have p5 := p4.below hb5
  have q5 := rw4.below hb5
  have m5 := m4.below hb5
  have k5 := k4.below hb5
  have hs5 := hb5.size
  have B5 := B4.trans (hb5.mono B4.size)
  clear p4 rw4 m4 k4 B4 hb5
  have c0 := p5.cell (o := 0) (by omega)
  have c1 := p5.cell (o := 1) (by omega)
  have c2 := p5.cell (o := 2) (by omega)
  simp at c0 c1 c2
  have cl := p5.lt
  have d0 := q5.cell (o := 0) (by omega)
  have d1 := q5.cell (o := 1) (by omega)
  have d2 := q5.cell (o := 2) (by omega)
  simp at d0 d1 d2
  have dl := q5.lt
  go_wp2_with fail
  clear c0 c1 c2 cl d0 d1 d2 dl
  refine (markWorld_new _ _ _ _ _ _ _ k5 (by omega) (by omega) (by omega) (by omega)).mono ?_
  rintro e w6 ⟨rfl, k6, mk6⟩
  have m6 := m5.far k5 mk6 (by omega)
  have p6 := row_far p5 k5 mk6 (by omega)
  have q6 := row_far q5 k5 mk6 (by omega)
  have b6 := below_far k5 mk6 B5.size (by omega)
  have B6 := B5.trans b6
  have hs6 : w5.heap.size ≤ w6.heap.size := by
    cases bv with
    | none => exact (mk6.1 rfl).size
    | some a =>
      rcases k5.2.2 with ⟨_, e2⟩ | ⟨g2, e2, _, _, _⟩
      · cases e2
      · exact (mk6.2 g2 e2).size
  clear p5 q5 m5 k5 B5 mk6 b6
  have c0 := p6.cell (o := 0) (by omega)
  have c1 := p6.cell (o := 1) (by omega)
  have c2 := p6.cell (o := 2) (by omega)
  simp at c0 c1 c2
  have cl := p6.lt
  have d0 := q6.cell (o := 0) (by omega)
  have d1 := q6.cell (o := 1) (by omega)
  have d2 := q6.cell (o := 2) (by omega)
  simp at d0 d1 d2
  have dl := q6.lt
  go_wp2_with fail
  clear c0 c1 c2 cl d0 d1 d2 dl
  refine (heldWorld_new _ _ _ _ _ _ _ k6 (by omega) (by omega) (by omega)).mono ?_
  rintro e w7 ⟨rfl, hb7⟩
  have p7 := p6.below hb7
  have q7 := q6.below hb7
  have m7 := m6.below hb7
  have k7 := k6.below hb7
  have hs7 := hb7.size
  have B7 := B6.trans (hb7.mono B6.size)
  have e1 : ¬ (1 : Int) + 4 * (n' : Int) < 0 := by omega
  clear p6 q6 m6 k6 B6 hb7
  go_wp2_with fail
  refine (worldNew_impl _ _).mono ?_
  rintro e w8 ⟨cv, n'', d2, rfl, hn, j8, hb8⟩
  rw [hN.out] at hn
  subst hn
  rw [hy.out]
  have p8 := p7.below hb8
  have q8 := q7.below hb8
  have m8 := m7.below hb8
  have k8 := k7.below hb8
  have hs8 := hb8.size
  have B8 := B7.trans (hb8.mono B7.size)
  clear p7 q7 m7 k7 B7 hb8
  have c0 := p8.cell (o := 0) (by omega)
  have c1 := p8.cell (o := 1) (by omega)
  have c2 := p8.cell (o := 2) (by omega)
  simp at c0 c1 c2
  have cl := p8.lt
  go_wp2_with fail
  clear c0 c1 c2 cl
  obtain ⟨W9, hW9⟩ : ∃ W, W = (w8.alloc (.cells #[.int .i64 0, .slice cv n'' d2, .slice none 0 0] 28)) := ⟨_, rfl⟩
  have bb9 : Below w8.heap.size w8 W9 := by rw [hW9]; exact (Below.refl _ _).alloc (Nat.le_refl _) _
  have hz9 : W9.heap.size = w8.heap.size + 1 := by rw [hW9]; simp
  have rw9 : RowAt W9 w8.heap.size 3 (fun o => (#[.int .i64 0, .slice cv n'' d2, .slice none 0 0] : Array Value).getD o undef) := by rw [hW9]; exact RowAt.new w8 _ _
  rw [← hW9]
  clear hW9
  have p9 := p8.below bb9
  have q9 := q8.below bb9
  have m9 := m8.below bb9
  have k9 := k8.below bb9
  have j9 := j8.below bb9
  have B9 := B8.trans (bb9.mono B8.size)
  clear p8 q8 m8 k8 j8 B8 bb9
  refine (eqWorld_new _ _ _ _ _ _ _ _ _ _ j9 m9).mono ?_
  rintro e w10 ⟨rfl, hb10⟩
  have q10 := q9.below hb10
  have k10 := k9.below hb10
  have hs10 := hb10.size
  have B10 := B9.trans (hb10.mono B9.size)
  clear p9 q9 m9 k9 j9 B9 hb10 rw9
  have d0 := q10.cell (o := 0) (by omega)
  have d1 := q10.cell (o := 1) (by omega)
  have d2 := q10.cell (o := 2) (by omega)
  simp at d0 d1 d2
  have dl := q10.lt
  go_wp2_with fail
  clear d0 d1 d2 dl
  refine (heldWorld_new _ _ _ _ _ _ _ k10 (by omega) (by omega) (by omega)).mono ?_
  rintro e w11 ⟨rfl, hb11⟩
  have B11 := B10.trans (hb11.mono B10.size)
  go_wp2_with fail
  go_ret
  exact ⟨rfl, B11⟩

theorem own : ownKnob Try.prog.godebug = none := by kernel_rfl
theorem laidOut : laidOutB Try.prog = true := by kernel_rfl
set_option maxRecDepth 100000 in
theorem lifted (os : Os) (started : os.Started) (H : Type) (enc : TypeId × Value → H) :
    ReturnsInHanded {} Try.checked os 7 .any (Rows.fnExactWorldNewSpec.pre6 enc Try.prog Try.f7 Rows.fnExactWorldNewRow.domain false) (Rows.fnExactWorldNewSpec.post enc Try.prog Try.f7 false true false false) := by
  refine returnsInHanded_of_change (C := Try.checked) own started (by kernel_rfl) Try.func7
    (ChangeSpec.witness6 (enc := enc) (C := Try.checked) false ⟨#[], #[.int .i64 0], []⟩ 8 (by kernel_rfl) (by kernel_rfl) (by kernel_rfl) (by kernel_rfl)) ?_
  intro W base args ds gs before hval0 hW hcnd _
  have hval : ∀ (j : Nat) t v, Try.f7.params[j]? = some t → args[j]? = some v → Value.okWide Try.prog W .any base t v := hval0
  have hW' := hW
  obtain ⟨p, q, hA0, hV, rfl, hfz, hnd⟩ := hW
  have hA : DataW.TrodAll enc Try.prog W 0 (fun _ => true) true Try.f7.params.toList args.toList ds p := hA0
  rw [Try.params7] at hA hval
  obtain ⟨v0, vs0, d0, ds0, p0, q0, hargs, rfl, rfl, h0, r0⟩ := trodAll_cons hA
  obtain ⟨rfl, rfl, rfl⟩ := trodAll_nil r0
  obtain rfl : args = #[v0] := by cases args; simp_all
  obtain ⟨rfl, rfl⟩ := trodVars_none hV
  have k0 := h0
  have lt0 : ∀ x ∈ p0, x.block < W.heap.size := by obtain ⟨m, hm⟩ := k0; exact DataW.trod_lt m _ _ _ hm
  obtain ⟨a0, rfl, rfl, rfl, wfa0⟩ := open_int Try.underlying2 (hval 0 2 v0 rfl rfl) h0
  clear hA0 hval0
  refine (walk a0 W).mono fun e W' ⟨he, bel⟩ => ?_
  subst he
  exact ⟨_, rfl, _, _, _, [], _, [], hW', trodAll_mk1 (shut_bool Try.underlying4 _), (trodAll_cons_mk (Below.trod laidOut (by kernel_rfl) (of_decide_eq_true (by kernel_rfl)) k0 bel lt0) trodAll_mk0), rfl, bel.frame _, fun h => by cases h⟩

theorem over : Rows.fnExactWorldNewRow.holds Try.pinned (OpenSpec.ofChange Rows.fnExactWorldNewSpec) :=
  OpenClaim.holds_of_wide 7 Try.f7 rfl rfl rfl rfl rfl rfl rfl ⟨rfl, rfl, rfl, rfl, rfl⟩ rfl rfl rfl rfl rfl (by kernel_rfl) Try.func7 (by kernel_rfl)
    (of_decide_eq_true (by kernel_rfl)) (by unfold Func.isWrapper; first | (rw [if_pos (by decide +kernel)]; kernel_rfl) | (rw [if_neg (by decide +kernel)]; exact ⟨rfl, rfl⟩))
    (fun os started H enc _ => lifted os started H enc)

theorem proved : Rows.FnExactWorldNewSaid := over
end Go.Proofs.Ytpookiebkiigcaa.exWorldNew
namespace Go.Proofs.Ytpookiebkiigcaa
theorem fnExactWorldNew_holds : Rows.FnExactWorldNewSaid := exWorldNew.proved
end Go.Proofs.Ytpookiebkiigcaa
