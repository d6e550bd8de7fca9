/-
  For every update the law FnExactUpdateText answers true: UpdateText of the program answers as the model's does; the argument reads as it did. The three tables of Go's library that the card lists are as the program's text lays them (the card's tie).
-/
import Derived.Test.YtjgcjopijblpkaaDoorZUpdateText25
import Derived.Test.YtjgcjopijblpkaaDoorZUpdateText28
import Derived.Test.YtjgcjopijblpkaaDoorZUpdateText27
import Derived.Test.YtjgcjopijblpkaaDoorZUpdateText30
import Derived.Test.YtjgcjopijblpkaaDoorCards
import Derived.Test.YtjgcjopijblpkaaDoorTie
import Derived.SevenTiedAt
import Derived.Stop.LaidErr
import Derived.Lib.LaidTab
import Derived.LaidMore
import Derived.ChangeSame
import Derived.ChangeVars
import Derived.JoinedOf
import Derived.Stop.Joined
import Derived.OpenShut
import Derived.ShutString
import Derived.ChangeOld
import Derived.Lib.SmallJoins
namespace Go.Proofs.YtjgcjopijblpkaaDoor.exUpdateText
open Go.ChangeShapes Go.WideShapes Go.ChangeAt Go.RowKit
set_option linter.unusedVariables false

theorem tab_of {W : World} (h : laidMetH Tryd.prog Rows.fnExactUpdateTextRow.laid W) : Tab W.heap.size W := by
  rw [MakeChecks.laidMetH_plain _ _ _ (by kernel_rfl)] at h
  refine Lib.tabBelow_of_tabIs ?_
  have h3 : laidMet Tryd.prog [("internal/strconv.uint64pow10", Lib.tabData .u64 Lib.pow10Tab)] W := h.tail.tail
  exact Lib.tabIs_of_head (g := 0) (t := 143) (e := 127) (n := 20) (by kernel_rfl) (by kernel_rfl) (by kernel_rfl) (by kernel_rfl) (by kernel_rfl) (by kernel_rfl) h3

set_option maxHeartbeats 4000000 in
set_option maxRecDepth 100000 in
theorem walk (dr dn sw sc sr k tr id pa st en lv : Int) (s : ByteArray) (w : World) (hs : s.size ≤ maxLen) (tab : Tab w.heap.size w) :
    Calls Tryd.prog 4 #[.agg #[.int .i64 dr, .int .i64 dn, .int .i64 sw, .int .i64 sc, .int .i64 sr, .int .i64 k, .int .i64 tr, .int .i64 id, .int .i64 pa, .string s, .int .i64 st, .int .i64 en, .int .i64 lv]] w fun e w' => e = .returned (.bool true) ∧ Below w.heap.size w w' := by
  have hA : Below w.heap.size w (w.alloc (.cells #[.int .i64 dr, .int .i64 dn, .int .i64 sw, .int .i64 sc, .int .i64 sr, .int .i64 k, .int .i64 tr, .int .i64 id, .int .i64 pa, .string s, .int .i64 st, .int .i64 en, .int .i64 lv] 42)) := (Below.refl _ _).alloc (Nat.le_refl _) _
  have row0 : RowAt (w.alloc (.cells #[.int .i64 dr, .int .i64 dn, .int .i64 sw, .int .i64 sc, .int .i64 sr, .int .i64 k, .int .i64 tr, .int .i64 id, .int .i64 pa, .string s, .int .i64 st, .int .i64 en, .int .i64 lv] 42)) w.heap.size 13 (fun o => (#[.int .i64 dr, .int .i64 dn, .int .i64 sw, .int .i64 sc, .int .i64 sr, .int .i64 k, .int .i64 tr, .int .i64 id, .int .i64 pa, .string s, .int .i64 st, .int .i64 en, .int .i64 lv] : Array Value).getD o undef) := RowAt.new w _ _
  obtain ⟨x, hx⟩ : ∃ x, Hid (M1.utx ⟨dr, dn, sw, sc, sr, k, tr, id, pa, s, st, en, lv⟩ = x) := ⟨_, rfl⟩
  go_enter Tryd.func4, Tryd.ntmps4
  go_upto_region 1 with fail
  obtain ⟨W0, hW0⟩ : ∃ W, w.alloc (.cells #[.int .i64 dr, .int .i64 dn, .int .i64 sw, .int .i64 sc, .int .i64 sr, .int .i64 k, .int .i64 tr, .int .i64 id, .int .i64 pa, .string s, .int .i64 st, .int .i64 en, .int .i64 lv] 42) = W := ⟨_, rfl⟩
  rw [hW0] at hA row0 ⊢
  clear hW0
  have c0 := row0.cell (o := 0) (by omega)
  have c1 := row0.cell (o := 1) (by omega)
  have c2 := row0.cell (o := 2) (by omega)
  have c3 := row0.cell (o := 3) (by omega)
  have c4 := row0.cell (o := 4) (by omega)
  have c5 := row0.cell (o := 5) (by omega)
  have c6 := row0.cell (o := 6) (by omega)
  have c7 := row0.cell (o := 7) (by omega)
  have c8 := row0.cell (o := 8) (by omega)
  have c9 := row0.cell (o := 9) (by omega)
  have c10 := row0.cell (o := 10) (by omega)
  have c11 := row0.cell (o := 11) (by omega)
  have c12 := row0.cell (o := 12) (by omega)
  simp at c0 c1 c2 c3 c4 c5 c6 c7 c8 c9 c10 c11 c12
  have cl := row0.lt
  by_cases hn : (s.size : Int) ≤ 1048576
  · go_wp2_with fail
    refine (szUpdate_yes _ _ _ _ _ _ _ _ _ _ _ _ _ _ _ (by omega) (by omega) hs hn).mono ?_
    rintro e w1 ⟨rfl, hb1⟩
    have hB1 := hA.trans (hb1.mono hA.size)
    have row1 := row0.below hb1
    clear c0 c1 c2 c3 c4 c5 c6 c7 c8 c9 c10 c11 c12 cl
    have c0 := row1.cell (o := 0) (by omega)
    have c1 := row1.cell (o := 1) (by omega)
    have c2 := row1.cell (o := 2) (by omega)
    have c3 := row1.cell (o := 3) (by omega)
    have c4 := row1.cell (o := 4) (by omega)
    have c5 := row1.cell (o := 5) (by omega)
    have c6 := row1.cell (o := 6) (by omega)
    have c7 := row1.cell (o := 7) (by omega)
    have c8 := row1.cell (o := 8) (by omega)
    have c9 := row1.cell (o := 9) (by omega)
    have c10 := row1.cell (o := 10) (by omega)
    have c11 := row1.cell (o := 11) (by omega)
    have c12 := row1.cell (o := 12) (by omega)
    simp at c0 c1 c2 c3 c4 c5 c6 c7 c8 c9 c10 c11 c12
    have cl := row1.lt
    go_wp2_with fail
    refine (toUpdate_any _ _ _ _ _ _ _ _ _ _ _ _ _ _).mono ?_
    rintro e w2 ⟨rfl, hb2⟩
    have hB2 := hB1.trans (hb2.mono hB1.size)
    have row2 := row1.below hb2
    clear c0 c1 c2 c3 c4 c5 c6 c7 c8 c9 c10 c11 c12 cl
    go_wp2_with fail
    refine (updateText_spec ⟨dr, dn, sw, sc, sr, k, tr, id, pa, s, st, en, lv⟩ _ hs).mono ?_
    rw [hx.out]
    rintro e w3 ⟨rfl, hb3⟩
    have hB3 := hB2.trans (hb3.mono hB2.size)
    have row3 := row2.below hb3
    have c0 := row3.cell (o := 0) (by omega)
    have c1 := row3.cell (o := 1) (by omega)
    have c2 := row3.cell (o := 2) (by omega)
    have c3 := row3.cell (o := 3) (by omega)
    have c4 := row3.cell (o := 4) (by omega)
    have c5 := row3.cell (o := 5) (by omega)
    have c6 := row3.cell (o := 6) (by omega)
    have c7 := row3.cell (o := 7) (by omega)
    have c8 := row3.cell (o := 8) (by omega)
    have c9 := row3.cell (o := 9) (by omega)
    have c10 := row3.cell (o := 10) (by omega)
    have c11 := row3.cell (o := 11) (by omega)
    have c12 := row3.cell (o := 12) (by omega)
    simp at c0 c1 c2 c3 c4 c5 c6 c7 c8 c9 c10 c11 c12
    have cl := row3.lt
    go_wp2_with fail
    refine (toUpdate_any _ _ _ _ _ _ _ _ _ _ _ _ _ _).mono ?_
    rintro e w4 ⟨rfl, hb4⟩
    have hB4 := hB3.trans (hb4.mono hB3.size)
    clear c0 c1 c2 c3 c4 c5 c6 c7 c8 c9 c10 c11 c12 cl
    go_wp2_with fail
    refine (updateText_impl ⟨dr, dn, sw, sc, sr, k, tr, id, pa, s, st, en, lv⟩ _ hs (tab_more (tab.on hB4) hB4.size)).mono ?_
    rw [hx.out]
    rintro e w5 ⟨rfl, hb5⟩
    have hB5 := hB4.trans (hb5.mono hB4.size)
    go_wp2_with fail
    go_ret
    exact ⟨rfl, hB5⟩
  · go_wp2_with fail
    refine (szUpdate_no _ _ _ _ _ _ _ _ _ _ _ _ _ _ _ (by omega) (by omega) hs (by omega)).mono ?_
    rintro e w1 ⟨rfl, hb1⟩
    have hB1 := hA.trans (hb1.mono hA.size)
    go_wp2_with fail
    go_ret
    exact ⟨rfl, hB1⟩

theorem own : ownKnob Tryd.prog.godebug = none := by kernel_rfl
theorem laidOut : laidOutB Tryd.prog = true := by kernel_rfl
set_option maxRecDepth 100000 in
theorem door_met (os : Os) (args : Array Value) : laidMetH Tryd.prog Rows.fnExactUpdateTextRow.laid ((World.doorLaid Tryd.prog 34 os).forCall (fun _ _ => 0) ⟨#[], args, []⟩).memory :=
  laidMetH_of_parts3 (fuel := 8) (laidMet_of_run' 8 (by kernel_rfl) (by kernel_rfl)) (by kernel_rfl) (by kernel_rfl)

set_option maxRecDepth 100000 in
theorem lifted (os : Os) (started : os.Started) (H : Type) (enc : TypeId × Value → H) :
    ReturnsInHanded {} Tryd.checked os 4 .any (fun w args => (Rows.fnExactUpdateTextSpec.pre enc Tryd.prog Tryd.f4 Rows.fnExactUpdateTextRow.domain false w args ∧ laidMetH Tryd.prog Rows.fnExactUpdateTextRow.laid w) ∧ sizedMet enc Tryd.prog Tryd.f4 (OpenSpec.ofChange Rows.fnExactUpdateTextSpec) false w args) (Rows.fnExactUpdateTextSpec.post enc Tryd.prog Tryd.f4 false true false false) := by
  refine returnsInHanded_of_change_and (C := Tryd.checked) (X := fun w _ => laidMetH Tryd.prog Rows.fnExactUpdateTextRow.laid w) (fun _ _ _ hh h => h.of_heap hh) own started (by kernel_rfl) Tryd.func4
    (ChangeSpec.witness_shaped (enc := enc) (C := Tryd.checked) (os := os) (X := fun w _ => laidMetH Tryd.prog Rows.fnExactUpdateTextRow.laid w) false (World.doorLaid Tryd.prog 34 os) #[.agg #[.int .i64 0, .int .i64 0, .int .i64 0, .int .i64 0, .int .i64 0, .int .i64 0, .int .i64 0, .int .i64 0, .int .i64 0, .string ByteArray.empty, .int .i64 0, .int .i64 0, .int .i64 0]] 8 rfl (World.shaped_of_RefB (by kernel_rfl) (by kernel_rfl)) (by kernel_rfl) (by kernel_rfl) (by kernel_rfl) (door_met os _)) ?_
  intro W base args ds gs before hval0 hW hcnd _ hL _
  have hval : ∀ (j : Nat) t v, Tryd.f4.params[j]? = some t → args[j]? = some v → Value.okWide Tryd.prog W .any base t v := hval0
  have hW' := hW
  obtain ⟨p, q, hA0, hV, rfl, hfz, hnd⟩ := hW
  have hA : DataW.TrodAll enc Tryd.prog W 0 (fun _ => true) true Tryd.f4.params.toList args.toList ds p := hA0
  rw [Tryd.params4] at hA hval
  obtain ⟨v0, vs0, d0, ds0, p0, q0, hargs, rfl, rfl, h0, r0⟩ := trodAll_cons hA
  obtain ⟨rfl, rfl, rfl⟩ := trodAll_nil r0
  obtain rfl : args = #[v0] := by cases args; simp_all
  obtain ⟨rfl, rfl⟩ := trodVars_none hV
  have k0 := h0
  have lt0 : ∀ x ∈ p0, x.block < W.heap.size := by obtain ⟨m, hm⟩ := k0; exact DataW.trod_lt m _ _ _ hm
  obtain ⟨dr_0, dn_0, sw_0, sc_0, sr_0, kd_0, tr_0, id_0, pa_0, st_0, en_0, lv_0, s_0, rfl, hs0⟩ := open_update (hval 0 42 v0 rfl rfl) h0
  clear hA0 hval0
  refine (walk dr_0 dn_0 sw_0 sc_0 sr_0 kd_0 tr_0 id_0 pa_0 st_0 en_0 lv_0 s_0 W hs0 (tab_of hL)).mono fun e W' ⟨he, bel⟩ => ?_
  subst he
  exact ⟨_, rfl, _, _, _, [], _, [], hW', trodAll_mk1 (shut_bool Tryd.underlying4 _), (trodAll_cons_mk (Below.trod laidOut (by kernel_rfl) (of_decide_eq_true (by kernel_rfl)) k0 bel lt0) trodAll_mk0), rfl, bel.frame _, fun h => by cases h⟩

theorem over : Rows.fnExactUpdateTextRow.holds Tryd.pinned (OpenSpec.ofChange Rows.fnExactUpdateTextSpec) :=
  OpenClaim.holds_of_wide 4 Tryd.f4 rfl rfl rfl rfl rfl rfl rfl ⟨rfl, rfl, rfl, rfl, rfl⟩ rfl rfl rfl rfl rfl (by kernel_rfl) Tryd.func4 (by kernel_rfl)
    (of_decide_eq_true (by kernel_rfl)) (by unfold Func.isWrapper; first | (rw [if_pos (by decide +kernel)]; kernel_rfl) | (rw [if_neg (by decide +kernel)]; exact ⟨rfl, rfl⟩))
    (fun os started H enc _ => lifted os started H enc)

theorem proved : Rows.FnExactUpdateTextCardSaid :=
  Claim7.holds_tied_plain_at .later [] [.data, .data, .data] true (true, "c6af120a7bbcce473cf4f4960bd49cdc13718dfeedafa9d4aa841a82a0c18a08") true
    over (fun _ h => by cases h) (by kernel_rfl) (fun _ h => by cases h) fnExactUpdateText_row_tie rfl ⟨rfl, rfl⟩ (by kernel_rfl) rfl
    (fun f fn hf hfn => by
      obtain rfl : f = 4 := Option.some.inj ((show Tryd.prog.funcNamed "loop.example/g00368/laws.FnExactUpdateText" = some 4 by kernel_rfl).symm.trans hf) |>.symm
      obtain rfl : fn = Tryd.f4 := (Option.some.inj (Tryd.func4.symm.trans hfn)).symm
      exact ⟨by kernel_rfl, fun j t ht => by
        rw [Tryd.params4] at ht
        have hm : t ∈ [42] := by simpa using Array.mem_of_getElem? ht
        have hall : ([42].all fun u => !Tryd.prog.wantsStandIn u) = true := by kernel_rfl
        exact (show Tryd.prog.wantsStandIn t = false by simpa using List.all_eq_true.1 hall t hm)⟩)
    (by kernel_rfl)
end Go.Proofs.YtjgcjopijblpkaaDoor.exUpdateText
namespace Go.Proofs.YtjgcjopijblpkaaDoor
theorem fnExactUpdateText_holds : Rows.FnExactUpdateTextCardSaid := exUpdateText.proved
end Go.Proofs.YtjgcjopijblpkaaDoor
