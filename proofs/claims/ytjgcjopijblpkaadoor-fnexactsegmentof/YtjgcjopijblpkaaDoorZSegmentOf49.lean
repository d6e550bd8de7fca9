/-
  For every slice of updates the law FnExactSegmentOf answers true: SegmentOf of the program answers as the model's does and writes into no argument; the argument reads as it did. The three tables of Go's library that the card lists are as the program's text lays them (the card's tie).
-/
import Derived.Test.YtjgcjopijblpkaaDoorZSegmentOf40
import Derived.Test.YtjgcjopijblpkaaDoorZSegmentOf44
import Derived.Test.YtjgcjopijblpkaaDoorZSegmentOf45
import Derived.Test.YtjgcjopijblpkaaDoorZSegmentOf48
import Derived.Test.YtjgcjopijblpkaaDoorCards
import Derived.Test.YtjgcjopijblpkaaDoorTie
import Derived.SevenTiedAt
import Derived.Stop.LaidErr
import Derived.Lib.LaidTab
import Derived.LaidMore
import Derived.ChangeSame
import Derived.ChangeVars
import Derived.JoinedOf
import Derived.Stop.Joined
import Derived.OpenShut
import Derived.ShutString
import Derived.ChangeOld
import Derived.Lib.SmallJoins
namespace Go.Proofs.YtjgcjopijblpkaaDoor.exSegmentOf
open Go.ChangeShapes Go.WideShapes Go.ChangeAt Go.RowKit
set_option linter.unusedVariables false

theorem tab_of {W : World} (h : laidMetH Tryd.prog Rows.fnExactSegmentOfRow.laid W) : Tab W.heap.size W := by
  rw [MakeChecks.laidMetH_plain _ _ _ (by kernel_rfl)] at h
  refine Lib.tabBelow_of_tabIs ?_
  have h3 : laidMet Tryd.prog [("internal/strconv.uint64pow10", Lib.tabData .u64 Lib.pow10Tab)] W := h.tail.tail
  exact Lib.tabIs_of_head (g := 0) (t := 143) (e := 127) (n := 20) (by kernel_rfl) (by kernel_rfl) (by kernel_rfl) (by kernel_rfl) (by kernel_rfl) (by kernel_rfl) h3

set_option maxHeartbeats 8000000 in
set_option maxRecDepth 100000 in
theorem walk (av : Option Addr) (n cn : Nat) (us : List M1.Upd) (w : World) (h1 : IsUpds w av n cn us) (tab : Tab w.heap.size w) :
    Calls Tryd.prog 6 #[.slice av n cn] w fun e w' => e = .returned (.bool true) ∧ Below w.heap.size w w' := by
  have hm1 := h1.hcap
  have hm2 := h1.hmost
  have HL : Hid (us.length = n) := h1.hlen
  have HT : Hid (∀ i, i < n → (M1.up us i).s.size ≤ maxLen) := h1.htxt
  obtain ⟨x, hx⟩ : ∃ x, Hid (M1.seg us = x) := ⟨_, rfl⟩
  obtain ⟨b, hb⟩ : ∃ b, Hid (M1.segOk us = b) := ⟨_, rfl⟩
  go_enter Tryd.func6, Tryd.ntmps6
  go_wp2_with fail
  refine (szUpdateS_any _ _ _ _ _ _ h1 (by omega) (by omega)).mono ?_
  rintro e w0 ⟨⟨r, hn, hr0, hr1, rfl⟩ | rfl, hb0⟩
  · have hn' : n ≤ 1048576 := by omega
    have h1a := h1.below hb0
    go_wp2_with fail
    refine (toUpdateS_any _ _ _ _ _ h1a hn').mono ?_
    rintro e w1 ⟨g1, rfl, hg1, r1, hb1⟩
    have hB1 := hb0.trans (hb1.mono hb0.size)
    have v1 := isUpds_of_row HL.out (Nat.le_refl _) (by unfold maxLen; omega) HT.out r1
    go_wp2_with fail
    refine (segmentOf_spec _ _ _ _ _ v1).mono ?_
    rw [hx.out, hb.out]
    rintro e w2 ⟨rfl, hb2⟩
    have hB2 := hB1.trans (hb2.mono hB1.size)
    clear v1 r1
    go_wp2_with fail
    refine (toUpdateS_any _ _ _ _ _ (h1.below hB2) hn').mono ?_
    rintro e w3 ⟨g3, rfl, hg3, r3, hb3⟩
    have hB3 := hB2.trans (hb3.mono hB2.size)
    have v3 := isUpds_of_row HL.out (Nat.le_refl _) (by unfold maxLen; omega) HT.out r3
    go_wp2_with fail
    refine (segmentOf_impl _ _ _ _ _ v3 (tab_more (tab.on hB3) hB3.size)).mono ?_
    rw [hx.out, hb.out]
    rintro e w4 ⟨rfl, hb4⟩
    have hB4 := hB3.trans (hb4.mono hB3.size)
    have v4 := v3.below hb4
    clear v3 r3
    go_wp2_with fail
    refine (toUpdateS_any _ _ _ _ _ (h1.below hB4) hn').mono ?_
    rintro e w5 ⟨g5, rfl, hg5, r5, hb5⟩
    have hB5 := hB4.trans (hb5.mono hB4.size)
    have v5 := isUpds_of_row HL.out (Nat.le_refl _) (by unfold maxLen; omega) HT.out r5
    go_wp2_with fail
    refine (eqUpdateS_self _ _ _ _ _ _ _ (v4.below hb5) v5).mono ?_
    rintro e w6 ⟨rfl, hb6⟩
    have hB6 := hB5.trans (hb6.mono hB5.size)
    go_wp2_with fail
    go_ret
    exact ⟨rfl, hB6⟩
  · go_wp2_with fail
    go_ret
    exact ⟨rfl, hb0⟩

theorem own : ownKnob Tryd.prog.godebug = none := by kernel_rfl
theorem laidOut : laidOutB Tryd.prog = true := by kernel_rfl
set_option maxRecDepth 100000 in
theorem door_met (os : Os) (args : Array Value) : laidMetH Tryd.prog Rows.fnExactSegmentOfRow.laid ((World.doorLaid Tryd.prog 34 os).forCall (fun _ _ => 0) ⟨#[], args, []⟩).memory :=
  laidMetH_of_parts3 (fuel := 8) (laidMet_of_run' 8 (by kernel_rfl) (by kernel_rfl)) (by kernel_rfl) (by kernel_rfl)

set_option maxRecDepth 100000 in
theorem lifted (os : Os) (started : os.Started) (H : Type) (enc : TypeId × Value → H) :
    ReturnsInHanded {} Tryd.checked os 6 .any (fun w args => (Rows.fnExactSegmentOfSpec.pre enc Tryd.prog Tryd.f6 Rows.fnExactSegmentOfRow.domain false w args ∧ laidMetH Tryd.prog Rows.fnExactSegmentOfRow.laid w) ∧ sizedMet enc Tryd.prog Tryd.f6 (OpenSpec.ofChange Rows.fnExactSegmentOfSpec) false w args) (Rows.fnExactSegmentOfSpec.post enc Tryd.prog Tryd.f6 false true false false) := by
  refine returnsInHanded_of_change_and (C := Tryd.checked) (X := fun w _ => laidMetH Tryd.prog Rows.fnExactSegmentOfRow.laid w) (fun _ _ _ hh h => h.of_heap hh) own started (by kernel_rfl) Tryd.func6
    (ChangeSpec.witness_shaped (enc := enc) (C := Tryd.checked) (os := os) (X := fun w _ => laidMetH Tryd.prog Rows.fnExactSegmentOfRow.laid w) false (World.doorLaid Tryd.prog 34 os) #[.slice none 0 0] 8 rfl (World.shaped_of_RefB (by kernel_rfl) (by kernel_rfl)) (by kernel_rfl) (by kernel_rfl) (by kernel_rfl) (door_met os _)) ?_
  intro W base args ds gs before hval0 hW hcnd _ hL _
  have hval : ∀ (j : Nat) t v, Tryd.f6.params[j]? = some t → args[j]? = some v → Value.okWide Tryd.prog W .any base t v := hval0
  have hW' := hW
  obtain ⟨p, q, hA0, hV, rfl, hfz, hnd⟩ := hW
  have hA : DataW.TrodAll enc Tryd.prog W 0 (fun _ => true) true Tryd.f6.params.toList args.toList ds p := hA0
  rw [Tryd.params6] at hA hval
  obtain ⟨v0, vs0, d0, ds0, p0, q0, hargs, rfl, rfl, h0, r0⟩ := trodAll_cons hA
  obtain ⟨rfl, rfl, rfl⟩ := trodAll_nil r0
  obtain rfl : args = #[v0] := by cases args; simp_all
  obtain ⟨rfl, rfl⟩ := trodVars_none hV
  have k0 := h0
  have lt0 : ∀ x ∈ p0, x.block < W.heap.size := by obtain ⟨m, hm⟩ := k0; exact DataW.trod_lt m _ _ _ hm
  obtain ⟨a0, l0, c0, rfl⟩ := okWide_slice Tryd.underlying48 (hval 0 48 v0 rfl rfl)
  obtain ⟨fu0, hf0⟩ := h0
  obtain ⟨us0, vec0⟩ := open_updates hf0
  clear hA0 hval0
  refine (walk a0 l0 c0 us0 W vec0 (tab_of hL)).mono fun e W' ⟨he, bel⟩ => ?_
  subst he
  exact ⟨_, rfl, _, _, _, [], _, [], hW', trodAll_mk1 (shut_bool Tryd.underlying4 _), (trodAll_cons_mk (Below.trod laidOut (by kernel_rfl) (of_decide_eq_true (by kernel_rfl)) k0 bel lt0) trodAll_mk0), rfl, bel.frame _, fun h => by cases h⟩

theorem over : Rows.fnExactSegmentOfRow.holds Tryd.pinned (OpenSpec.ofChange Rows.fnExactSegmentOfSpec) :=
  OpenClaim.holds_of_wide 6 Tryd.f6 rfl rfl rfl rfl rfl rfl rfl ⟨rfl, rfl, rfl, rfl, rfl⟩ rfl rfl rfl rfl rfl (by kernel_rfl) Tryd.func6 (by kernel_rfl)
    (of_decide_eq_true (by kernel_rfl)) (by unfold Func.isWrapper; first | (rw [if_pos (by decide +kernel)]; kernel_rfl) | (rw [if_neg (by decide +kernel)]; exact ⟨rfl, rfl⟩))
    (fun os started H enc _ => lifted os started H enc)

theorem proved : Rows.FnExactSegmentOfCardSaid :=
  Claim7.holds_tied_plain_at .later [] [.data, .data, .data] true (true, "c6af120a7bbcce473cf4f4960bd49cdc13718dfeedafa9d4aa841a82a0c18a08") true
    over (fun _ h => by cases h) (by kernel_rfl) (fun _ h => by cases h) fnExactSegmentOf_row_tie rfl ⟨rfl, rfl⟩ (by kernel_rfl) rfl
    (fun f fn hf hfn => by
      obtain rfl : f = 6 := Option.some.inj ((show Tryd.prog.funcNamed "loop.example/g00368/laws.FnExactSegmentOf" = some 6 by kernel_rfl).symm.trans hf) |>.symm
      obtain rfl : fn = Tryd.f6 := (Option.some.inj (Tryd.func6.symm.trans hfn)).symm
      exact ⟨by kernel_rfl, fun j t ht => by
        rw [Tryd.params6] at ht
        have hm : t ∈ [48] := by simpa using Array.mem_of_getElem? ht
        have hall : ([48].all fun u => !Tryd.prog.wantsStandIn u) = true := by kernel_rfl
        exact (show Tryd.prog.wantsStandIn t = false by simpa using List.all_eq_true.1 hall t hm)⟩)
    (by kernel_rfl)
end Go.Proofs.YtjgcjopijblpkaaDoor.exSegmentOf
namespace Go.Proofs.YtjgcjopijblpkaaDoor
theorem fnExactSegmentOf_holds : Rows.FnExactSegmentOfCardSaid := exSegmentOf.proved
end Go.Proofs.YtjgcjopijblpkaaDoor
