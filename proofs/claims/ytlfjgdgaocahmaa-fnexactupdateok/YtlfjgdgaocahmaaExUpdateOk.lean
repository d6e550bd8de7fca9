/-
  For every update the law FnExactUpdateOk answers true: UpdateOk of the program answers as the model's does; the argument reads as it did. No condition.
-/
import Derived.Test.YtlfjgdgaocahmaaUpd1
import Derived.Test.YtlfjgdgaocahmaaUpdOk
import Derived.Test.YtlfjgdgaocahmaaToUpd
import Derived.Test.YtlfjgdgaocahmaaOpenUpd
import Derived.OpenShut
import Derived.ShutString
import Derived.ChangeOld
import Derived.Lib.SmallJoins
namespace Go.Proofs.Ytlfjgdgaocahmaa.exUpdateOk
open Go.ChangeShapes Go.WideShapes Go.ChangeAt Go.RowKit
set_option linter.unusedVariables false

theorem walk (dr dn sw sc sr k tr id pa st en lv : Int) (s : ByteArray) (w : World) (hs : s.size ≤ maxLen) :
    Calls Try.prog 3 #[.agg #[.int .i64 dr, .int .i64 dn, .int .i64 sw, .int .i64 sc, .int .i64 sr, .int .i64 k, .int .i64 tr, .int .i64 id, .int .i64 pa, .string s, .int .i64 st, .int .i64 en, .int .i64 lv]] w fun e w' => e = .returned (.bool true) ∧ Below w.heap.size w w' := by
  by_cases hn : (s.size : Int) ≤ 1048576
  · go_enter Try.func3, Try.ntmps3
    go_wp2_with fail
    refine (szUpdate_yes _ _ _ _ _ _ _ _ _ _ _ _ _ _ _ (by omega) (by omega) hs hn).mono ?_
    rintro e w1 ⟨rfl, hb1⟩
    have hB1 := hb1
    clear hb1
    obtain ⟨hc1, hf1⟩ := bcell hB1
    have hz1 := hB1.size
    (try simp [Nat.succ_le_iff] at hz1)
    have hz1_0 : w.heap.size < w1.heap.size := by omega
    go_wp2_with fail
    refine (toUpdate_any _ _ _ _ _ _ _ _ _ _ _ _ _ _).mono ?_
    rintro e w2 ⟨rfl, hb2⟩
    have hB2 := hB1.trans (hb2.mono hB1.size)
    obtain ⟨hc2, hf2⟩ := bcell hB2
    have hz2 := hB2.size
    (try simp [Nat.succ_le_iff] at hz2)
    have hz2_0 : w.heap.size < w2.heap.size := by omega
    clear hb2 hB1 hc1 hf1 hz1 hz1_0
    go_wp2_with fail
    refine (updateOk_spec _ _ _ _ _ _ _ _ _ _ _ _ _ _ hs).mono ?_
    rintro e w3 ⟨rfl, hb3⟩
    have hB3 := hB2.trans (hb3.mono hB2.size)
    obtain ⟨hc3, hf3⟩ := bcell hB3
    have hz3 := hB3.size
    (try simp [Nat.succ_le_iff] at hz3)
    have hz3_0 : w.heap.size < w3.heap.size := by omega
    clear hb3 hB2 hc2 hf2 hz2 hz2_0
    go_wp2_with fail
    refine (toUpdate_any _ _ _ _ _ _ _ _ _ _ _ _ _ _).mono ?_
    rintro e w4 ⟨rfl, hb4⟩
    have hB4 := hB3.trans (hb4.mono hB3.size)
    obtain ⟨hc4, hf4⟩ := bcell hB4
    have hz4 := hB4.size
    (try simp [Nat.succ_le_iff] at hz4)
    have hz4_0 : w.heap.size < w4.heap.size := by omega
    clear hb4 hB3 hc3 hf3 hz3 hz3_0
    go_wp2_with fail
    refine (updateOk_impl _ _ _ _ _ _ _ _ _ _ _ _ _ _ hs).mono ?_
    rintro e w5 ⟨rfl, hb5⟩
    have hB5 := hB4.trans (hb5.mono hB4.size)
    obtain ⟨hc5, hf5⟩ := bcell hB5
    have hz5 := hB5.size
    (try simp [Nat.succ_le_iff] at hz5)
    have hz5_0 : w.heap.size < w5.heap.size := by omega
    clear hb5 hB4 hc4 hf4 hz4 hz4_0
    go_wp2_with fail
    go_ret
    refine ⟨rfl, ?_⟩
    repeat (first | (with_reducible exact Below.refl _ _) | ((with_reducible refine Below.setCell ?_ ?_ _); rotate_left; (focus (first | omega | (simp; done) | (simp; omega)))) | ((with_reducible refine Below.alloc ?_ ?_ _); rotate_left; (focus (first | omega | (simp; done) | (simp; omega)))) | (with_reducible refine Below.drew ?_) | ((with_reducible refine Below.trans ?_ (Below.mono hB5 ?_)); rotate_left; (focus (first | omega | (simp; done) | (simp; omega)))))
  · go_enter Try.func3, Try.ntmps3
    go_wp2_with fail
    refine (szUpdate_no _ _ _ _ _ _ _ _ _ _ _ _ _ _ _ (by omega) (by omega) hs (by omega)).mono ?_
    rintro e w1 ⟨rfl, hb1⟩
    have hB1 := hb1
    clear hb1
    obtain ⟨hc1, hf1⟩ := bcell hB1
    have hz1 := hB1.size
    (try simp [Nat.succ_le_iff] at hz1)
    have hz1_0 : w.heap.size < w1.heap.size := by omega
    go_wp2_with fail
    go_ret
    refine ⟨rfl, ?_⟩
    repeat (first | (with_reducible exact Below.refl _ _) | ((with_reducible refine Below.setCell ?_ ?_ _); rotate_left; (focus (first | omega | (simp; done) | (simp; omega)))) | ((with_reducible refine Below.alloc ?_ ?_ _); rotate_left; (focus (first | omega | (simp; done) | (simp; omega)))) | (with_reducible refine Below.drew ?_) | ((with_reducible refine Below.trans ?_ (Below.mono hB1 ?_)); rotate_left; (focus (first | omega | (simp; done) | (simp; omega)))))

theorem own : ownKnob Try.prog.godebug = none := by kernel_rfl
theorem laidOut : laidOutB Try.prog = true := by kernel_rfl
set_option maxRecDepth 100000 in
theorem lifted (os : Os) (started : os.Started) (H : Type) (enc : TypeId × Value → H) :
    ReturnsInHanded {} Try.checked os 3 .any (Rows.fnExactUpdateOkSpec.pre6 enc Try.prog Try.f3 Rows.fnExactUpdateOkRow.domain false) (Rows.fnExactUpdateOkSpec.post enc Try.prog Try.f3 false true false false) := by
  refine returnsInHanded_of_change (C := Try.checked) own started (by kernel_rfl) Try.func3
    (ChangeSpec.witness6 (enc := enc) (C := Try.checked) false ⟨#[], #[.agg #[.int .i64 0, .int .i64 0, .int .i64 0, .int .i64 0, .int .i64 0, .int .i64 0, .int .i64 0, .int .i64 0, .int .i64 0, .string ByteArray.empty, .int .i64 0, .int .i64 0, .int .i64 0]], []⟩ 8 (by kernel_rfl) (by kernel_rfl) (by kernel_rfl) (by kernel_rfl)) ?_
  intro W base args ds gs before hval0 hW hcnd _
  have hval : ∀ (j : Nat) t v, Try.f3.params[j]? = some t → args[j]? = some v → Value.okWide Try.prog W .any base t v := hval0
  have hW' := hW
  obtain ⟨p, q, hA0, hV, rfl, hfz, hnd⟩ := hW
  have hA : DataW.TrodAll enc Try.prog W 0 (fun _ => true) true Try.f3.params.toList args.toList ds p := hA0
  rw [Try.params3] at hA hval
  obtain ⟨v0, vs0, d0, ds0, p0, q0, hargs, rfl, rfl, h0, r0⟩ := trodAll_cons hA
  obtain ⟨rfl, rfl, rfl⟩ := trodAll_nil r0
  obtain rfl : args = #[v0] := by cases args; simp_all
  obtain ⟨rfl, rfl⟩ := trodVars_none hV
  have k0 := h0
  have lt0 : ∀ x ∈ p0, x.block < W.heap.size := by obtain ⟨m, hm⟩ := k0; exact DataW.trod_lt m _ _ _ hm
  obtain ⟨dr_0, dn_0, sw_0, sc_0, sr_0, kd_0, tr_0, id_0, pa_0, st_0, en_0, lv_0, s_0, rfl, hs0⟩ := open_update (hval 0 29 v0 rfl rfl) h0
  clear hA0 hval0
  refine (walk dr_0 dn_0 sw_0 sc_0 sr_0 kd_0 tr_0 id_0 pa_0 st_0 en_0 lv_0 s_0 W hs0).mono fun e W' ⟨he, bel⟩ => ?_
  subst he
  exact ⟨_, rfl, _, _, _, [], _, [], hW', trodAll_mk1 (shut_bool Try.underlying4 _), (trodAll_cons_mk (Below.trod laidOut (by kernel_rfl) (of_decide_eq_true (by kernel_rfl)) k0 bel lt0) trodAll_mk0), rfl, bel.frame _, fun h => by cases h⟩

theorem over : Rows.fnExactUpdateOkRow.holds Try.pinned (OpenSpec.ofChange Rows.fnExactUpdateOkSpec) :=
  OpenClaim.holds_of_wide 3 Try.f3 rfl rfl rfl rfl rfl rfl rfl ⟨rfl, rfl, rfl, rfl, rfl⟩ rfl rfl rfl rfl rfl (by kernel_rfl) Try.func3 (by kernel_rfl)
    (of_decide_eq_true (by kernel_rfl)) (by unfold Func.isWrapper; first | (rw [if_pos (by decide +kernel)]; kernel_rfl) | (rw [if_neg (by decide +kernel)]; exact ⟨rfl, rfl⟩))
    (fun os started H enc _ => lifted os started H enc)

theorem proved : Rows.FnExactUpdateOkSaid := over
end Go.Proofs.Ytlfjgdgaocahmaa.exUpdateOk
namespace Go.Proofs.Ytlfjgdgaocahmaa
theorem fnExactUpdateOk_holds : Rows.FnExactUpdateOkSaid := exUpdateOk.proved
end Go.Proofs.Ytlfjgdgaocahmaa
