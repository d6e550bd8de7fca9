/-
  For all two stamps and every number the law FnExactMet answers true: Met of the program answers as the model's does; the arguments read as they did. No condition.
-/
import Derived.Test.YtmldlpmjdfomfafToStamp
import Derived.Test.YtmldlpmjdfomfafMeet
import Derived.Deep.RegionHeld3
import Derived.Deep.DrawnRows
import Derived.Deep.DeepCutAuto
import Derived.ShutString
import Derived.ChangeOld
import Derived.Lib.SmallJoins
namespace Go.Proofs.Ytmldlpmjdfomfaf.exMet
open Go.ChangeShapes Go.WideShapes Go.ChangeAt Go.RowKit
set_option linter.unusedVariables false

set_option maxHeartbeats 4000000 in
theorem walk (a b c x y z now : Int) (w : World) :
    Calls Try.prog 3 #[.agg #[.int .i64 a, .int .i64 b, .int .i64 c], .agg #[.int .i64 x, .int .i64 y, .int .i64 z], .int .i64 now] w fun e w' => e = .returned (.bool true) ∧ Below w.heap.size w w' := by
  go_enter Try.func3, Try.ntmps3
  go_wp2_with fail
  go_cut [7, 8] (fun p ok wc => ∃ g, p = .pointer (some ⟨g, 0, none⟩) ∧ ok = .bool (M1.metP a b c x y z now).ok ∧ Kp ((w.alloc (.cells #[.int .i64 a, .int .i64 b, .int .i64 c] 23)).alloc (.cells #[.int .i64 x, .int .i64 y, .int .i64 z] 23)) wc ∧ w.heap.size + 2 ≤ g ∧ g < wc.heap.size ∧ wc.cell? ⟨g, 0, none⟩ = some (.int .i64 (M1.metP a b c x y z now).a) ∧ wc.cell? ⟨g, 1, none⟩ = some (.int .i64 (M1.metP a b c x y z now).b) ∧ wc.cell? ⟨g, 2, none⟩ = some (.int .i64 (M1.metP a b c x y z now).c))
  case first =>
    go_region_held3 (fun w' => Kp ((w.alloc (.cells #[.int .i64 a, .int .i64 b, .int .i64 c] 23)).alloc (.cells #[.int .i64 x, .int .i64 y, .int .i64 z] 23)) w')
      (first | exact kp_zero _ | exact kp_drew (by assumption) | exact kp_step (by assumption) (by assumption) | exact kp_alloc (by assumption) _ | exact kp_realloc (by assumption) (by first | omega | (simp; omega)) _ | ((repeat refine kp_set ?_ _ _ (by first | omega | (simp; done) | (simp; omega))); assumption))
      (first
        | (go_at_call 10; refine (toStamp_any _ _ _ _).mono ?_; rintro e w' ⟨rfl, hb⟩; obtain ⟨hc, hf, hz, hn⟩ := brules hb; have hs := hb.size; (try simp at hs); (try (have hb2 := cum (by assumption) hb; obtain ⟨hc2, hf2, hz2, hn2⟩ := brules hb2)))
        | (go_at_call 9; refine (met_spec _ _ _ _ _ _ _ _).mono ?_; rintro e w' ⟨rfl, hb⟩; obtain ⟨hc, hf, hz, hn⟩ := brules hb; have hs := hb.size; (try simp at hs); (try (have hb2 := cum (by assumption) hb; obtain ⟨hc2, hf2, hz2, hn2⟩ := brules hb2))))
    all_goals
      go_wp2_with fail
      go_meet
      refine ⟨_, rfl, rfl, by assumption, ?_, ?_, ?_, ?_, ?_⟩
    all_goals (first | omega | (go_simp; done) | (simp; omega))
  case rest =>
    obtain ⟨g, rfl, rfl, hK, hg1, hg2, hg3, hg4, hg5⟩ := hcut
    obtain ⟨hK1, hK2⟩ := hK
    have hsz := hK1.size
    simp at hsz
    have hz0 : w.heap.size < wc.heap.size := by omega
    have hz1 : w.heap.size + 1 < wc.heap.size := by omega
    go_wp2_with fail
    go_cut [9, 10] (fun p ok wd => ∃ q, p = .pointer (some ⟨q, 0, none⟩) ∧ ok = .bool (M1.metP a b c x y z now).ok ∧ Kp wc wd ∧ wc.heap.size ≤ q ∧ q < wd.heap.size ∧ wd.cell? ⟨q, 0, none⟩ = some (.int .i64 (M1.metP a b c x y z now).a) ∧ wd.cell? ⟨q, 1, none⟩ = some (.int .i64 (M1.metP a b c x y z now).b) ∧ wd.cell? ⟨q, 2, none⟩ = some (.int .i64 (M1.metP a b c x y z now).c))
    case first =>
      go_region_held3 (fun w' => Kp wc w')
        (first | exact kp_zero _ | exact kp_drew (by assumption) | exact kp_step (by assumption) (by assumption) | exact kp_alloc (by assumption) _ | exact kp_realloc (by assumption) (by first | omega | (simp; omega)) _ | ((repeat refine kp_set ?_ _ _ (by first | omega | (simp; done) | (simp; omega))); assumption))
        (first
          | (go_at_call 10; refine (toStamp_any _ _ _ _).mono ?_; rintro e w' ⟨rfl, hb⟩; obtain ⟨hc, hf, hz, hn⟩ := brules hb; have hs := hb.size; (try simp at hs); (try (have hb2 := cum (by assumption) hb; obtain ⟨hc2, hf2, hz2, hn2⟩ := brules hb2)))
          | (go_at_call 11; refine (met_impl _ _ _ _ _ _ _ _).mono ?_; rintro e w' ⟨rfl, hb⟩; obtain ⟨hc, hf, hz, hn⟩ := brules hb; have hs := hb.size; (try simp at hs); (try (have hb2 := cum (by assumption) hb; obtain ⟨hc2, hf2, hz2, hn2⟩ := brules hb2))))
      all_goals
        go_wp2_with fail
        go_meet
        refine ⟨_, rfl, rfl, by assumption, ?_, ?_, ?_, ?_, ?_⟩
      all_goals (first | omega | (go_simp; done) | (simp; omega))
    case rest =>
      obtain ⟨q, rfl, rfl, hL, hq1, hq2, hq3, hq4, hq5⟩ := hcut
      obtain ⟨hL1, hL2⟩ := hL
      go_wp2_with fail
      refine (eqStamp_same _ _ _ _).mono ?_
      rintro e w5 ⟨rfl, hb5⟩
      have hB5 := hb5
      clear hb5
      obtain ⟨hc5, hf5⟩ := bcell hB5
      have hz5 := hB5.size
      (try simp [Nat.succ_le_iff] at hz5)
      go_wp2_with fail
      go_ret
      refine ⟨rfl, ?_⟩
      repeat (first | (with_reducible exact Below.refl _ _) | ((with_reducible refine Below.setCell ?_ ?_ _); rotate_left; (focus (first | omega | (simp; done) | (simp; omega)))) | ((with_reducible refine Below.alloc ?_ ?_ _); rotate_left; (focus (first | omega | (simp; done) | (simp; omega)))) | (with_reducible refine Below.drew ?_) | ((with_reducible refine Below.trans ?_ (Below.mono hB5 ?_)); rotate_left; (focus (first | omega | (simp; done) | (simp; omega)))) | ((with_reducible refine Below.trans ?_ (Below.mono hL1 ?_)); rotate_left; (focus (first | omega | (simp; done) | (simp; omega)))) | ((with_reducible refine Below.trans ?_ (Below.mono hK1 ?_)); rotate_left; (focus (first | omega | (simp; done) | (simp; omega)))))

theorem own : ownKnob Try.prog.godebug = none := by kernel_rfl
theorem laidOut : laidOutB Try.prog = true := by kernel_rfl
set_option maxRecDepth 100000 in
theorem lifted (os : Os) (started : os.Started) (H : Type) (enc : TypeId × Value → H) :
    ReturnsInHanded {} Try.checked os 3 .any (Rows.fnExactMetSpec.pre6 enc Try.prog Try.f3 Rows.fnExactMetRow.domain false) (Rows.fnExactMetSpec.post enc Try.prog Try.f3 false true false false) := by
  refine returnsInHanded_of_change (C := Try.checked) own started (by kernel_rfl) Try.func3
    (ChangeSpec.witness6 (enc := enc) (C := Try.checked) false ⟨#[], #[.agg #[.int .i64 0, .int .i64 0, .int .i64 0], .agg #[.int .i64 0, .int .i64 0, .int .i64 0], .int .i64 0], []⟩ 8 (by kernel_rfl) (by kernel_rfl) (by kernel_rfl) (by kernel_rfl)) ?_
  intro W base args ds gs before hval0 hW hcnd _
  have hval : ∀ (j : Nat) t v, Try.f3.params[j]? = some t → args[j]? = some v → Value.okWide Try.prog W .any base t v := hval0
  have hW' := hW
  obtain ⟨p, q, hA0, hV, rfl, hfz, hnd⟩ := hW
  have hA : DataW.TrodAll enc Try.prog W 0 (fun _ => true) true Try.f3.params.toList args.toList ds p := hA0
  rw [Try.params3] at hA hval
  obtain ⟨v0, vs0, d0, ds0, p0, q0, hargs, rfl, rfl, h0, r0⟩ := trodAll_cons hA
  obtain ⟨v1, vs1, d1, ds1, p1, q1, rfl, rfl, rfl, h1, r1⟩ := trodAll_cons r0
  obtain ⟨v2, vs2, d2, ds2, p2, q2, rfl, rfl, rfl, h2, r2⟩ := trodAll_cons r1
  obtain ⟨rfl, rfl, rfl⟩ := trodAll_nil r2
  obtain rfl : args = #[v0, v1, v2] := by cases args; simp_all
  obtain ⟨rfl, rfl⟩ := trodVars_none hV
  have k0 := h0
  have lt0 : ∀ x ∈ p0, x.block < W.heap.size := by obtain ⟨m, hm⟩ := k0; exact DataW.trod_lt m _ _ _ hm
  have k1 := h1
  have lt1 : ∀ x ∈ p1, x.block < W.heap.size := by obtain ⟨m, hm⟩ := k1; exact DataW.trod_lt m _ _ _ hm
  have k2 := h2
  have lt2 : ∀ x ∈ p2, x.block < W.heap.size := by obtain ⟨m, hm⟩ := k2; exact DataW.trod_lt m _ _ _ hm
  obtain ⟨ua0, ub0, uc0, y00, y01, y02, m0, rfl, rfl, rfl, hy00, hy01, hy02⟩ := Joins.open_agg3 Try.underlying23 (by kernel_rfl) (by kernel_rfl) (hval 0 23 v0 rfl rfl) h0
  obtain ⟨a0, ea0, rfl, wfa0⟩ := DataW.trod_int Try.underlying2 hy00
  obtain ⟨b0, eb0, rfl, wfb0⟩ := DataW.trod_int Try.underlying2 hy01
  obtain ⟨c0, ec0, rfl, wfc0⟩ := DataW.trod_int Try.underlying2 hy02
  simp at ea0 eb0 ec0
  subst ea0 eb0 ec0
  obtain ⟨ua1, ub1, uc1, y10, y11, y12, m1, rfl, rfl, rfl, hy10, hy11, hy12⟩ := Joins.open_agg3 Try.underlying23 (by kernel_rfl) (by kernel_rfl) (hval 1 23 v1 rfl rfl) h1
  obtain ⟨a1, ea1, rfl, wfa1⟩ := DataW.trod_int Try.underlying2 hy10
  obtain ⟨b1, eb1, rfl, wfb1⟩ := DataW.trod_int Try.underlying2 hy11
  obtain ⟨c1, ec1, rfl, wfc1⟩ := DataW.trod_int Try.underlying2 hy12
  simp at ea1 eb1 ec1
  subst ea1 eb1 ec1
  obtain ⟨a2, rfl, rfl, rfl, wfa2⟩ := open_int Try.underlying2 (hval 2 2 v2 rfl rfl) h2
  clear hA0 hval0
  refine (walk a0 b0 c0 a1 b1 c1 a2 W).mono fun e W' ⟨he, bel⟩ => ?_
  subst he
  exact ⟨_, rfl, _, _, _, [], _, [], hW', trodAll_mk1 (shut_bool Try.underlying4 _), (trodAll_cons_mk (Below.trod laidOut (by kernel_rfl) (of_decide_eq_true (by kernel_rfl)) k0 bel lt0) (trodAll_cons_mk (Below.trod laidOut (by kernel_rfl) (of_decide_eq_true (by kernel_rfl)) k1 bel lt1) (trodAll_cons_mk (Below.trod laidOut (by kernel_rfl) (of_decide_eq_true (by kernel_rfl)) k2 bel lt2) trodAll_mk0))), rfl, bel.frame _, fun h => by cases h⟩

theorem over : Rows.fnExactMetRow.holds Try.pinned (OpenSpec.ofChange Rows.fnExactMetSpec) :=
  OpenClaim.holds_of_wide 3 Try.f3 rfl rfl rfl rfl rfl rfl rfl ⟨rfl, rfl, rfl, rfl, rfl⟩ rfl rfl rfl rfl rfl (by kernel_rfl) Try.func3 (by kernel_rfl)
    (of_decide_eq_true (by kernel_rfl)) (by unfold Func.isWrapper; first | (rw [if_pos (by decide +kernel)]; kernel_rfl) | (rw [if_neg (by decide +kernel)]; exact ⟨rfl, rfl⟩))
    (fun os started H enc _ => lifted os started H enc)

theorem proved : Rows.FnExactMetSaid := over
end Go.Proofs.Ytmldlpmjdfomfaf.exMet
namespace Go.Proofs.Ytmldlpmjdfomfaf
theorem fnExactMet_holds : Rows.FnExactMetSaid := exMet.proved
end Go.Proofs.Ytmldlpmjdfomfaf
