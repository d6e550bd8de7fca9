/-
  For every text the law FnExactRecoveredFrom answers true: RecoveredFrom of the program answers as the model's does, and its answer is memory of its own, behind another call too. The tables that the card lists are as the program's text lays them (the card's tie).
-/
import Derived.Test.YtbhidjagmonnaaaGreatDoorZRecoveredFrom48
import Derived.Test.YtbhidjagmonnaaaGreatDoorZRecoveredFrom28
import Derived.Test.YtbhidjagmonnaaaGreatDoorZRecoveredFrom20
import Derived.Test.YtbhidjagmonnaaaGreatDoorCards
import Derived.Test.YtbhidjagmonnaaaGreatDoorTie
import Derived.SevenTiedAt
import Derived.Stop.LaidErr
import Derived.Lib.LaidTab
import Derived.LaidMore
import Derived.Lay
import Derived.ChangeSame
import Derived.ChangeVars
import Derived.JoinedOf
import Derived.Stop.Joined
import Derived.OpenShut
import Derived.ShutString
import Derived.ChangeOld
import Derived.ChangeMaps
import Derived.Lib.SmallJoins
namespace Go.Proofs.YtbhidjagmonnaaaGreatDoor.exRecoveredFrom
open Go.ChangeShapes Go.WideShapes Go.ChangeAt Go.RowKit
set_option linter.unusedVariables false
set_option linter.unusedSimpArgs false

set_option maxHeartbeats 8000000 in
set_option maxRecDepth 100000 in
theorem walk (s : ByteArray) (w : World) (hs : s.size ≤ maxLen) (hm : MaxIn w) :
    Calls Tryz.prog 5 #[.string s] w fun e w' => e = .returned (.bool true) ∧ Below w.heap.size w w' := by
  have hs2 := hs
  unfold maxLen at hs2
  by_cases hn : s.size ≤ 1048576
  · have hni : (s.size : Int) ≤ 1048576 := by omega
    have hn2 : s.size ≤ 2000000 := by omega
    have hok := M1.rcv_ok (s := s) s.size [] 0 (by omega) (Nat.zero_le _) rfl
    obtain ⟨N, K, hNK⟩ : ∃ N K, Hid (M1.rcv s [] 0 = (N, K)) := ⟨_, _, rfl⟩
    rw [hNK.out] at hok
    have HTN : Hid (∀ i, i < N.length → (M1.up N i).s.size ≤ maxLen) := ok_short hok.1
    have hN0 := M1.setOk_len hok.1
    have hK0 : K ≤ s.size := hok.2.2
    clear hok
    go_enter Tryz.func5, Tryz.ntmps5
    go_wp2_with fail
    have js := recoveredFrom_spec s w hn2
    unfold Rcd at js
    rw [hNK.out] at js
    refine js.mono ?_
    clear js
    rintro e w1 ⟨⟨aW, cW, rfl, W1⟩, B1⟩
    have hs1 := B1.size
    go_wp2_with fail
    have js := recoveredFrom_impl s w1 hn2 (hm.below B1)
    unfold Rcd at js
    rw [hNK.out] at js
    refine js.mono ?_
    clear js
    rintro e w2 ⟨⟨aG, cG, rfl, G2⟩, hb2⟩
    have B2 := B1.trans (hb2.mono B1.size)
    have hs2' := hb2.size
    have W2 := W1.below hb2
    clear W1
    go_wp2_with fail
    refine (eqUpdateS_self _ _ _ _ _ _ _ (G2.upds rfl HTN.out) (W2.upds rfl HTN.out)).mono ?_
    rintro e w3 ⟨rfl, hb3⟩
    have B3 := B2.trans (hb3.mono B2.size)
    have hs3 := hb3.size
    have W3 := W2.below hb3
    have G3 := G2.below hb3
    clear W2 G2
    go_wp2_with fail
    refine (markU_any _ _ _ _ _ _ 1 _ G3 (by omega) (by omega) (by omega)).mono ?_
    rintro e w4 ⟨rfl, G4, mk4⟩
    have W4 := W3.mk G3 mk4 (by omega)
    have B4 := B3.trans (MkU.below G3 mk4 B3.size (by omega))
    have hs4 := (MkU.below (B := w.heap.size) G3 mk4 B3.size (by omega)).size
    clear W3 G3 mk4
    have e4 : ¬ (1 + 13 * (N.length : Int)) < 0 := by omega
    go_wp2_with fail
    refine (heldU_any _ _ _ _ _ 1 _ G4 (by omega) (by omega) (by omega)).mono ?_
    rintro e w5 ⟨rfl, hb5⟩
    have B5 := B4.trans (hb5.mono B4.size)
    have hs5 := hb5.size
    have W5 := W4.below hb5
    have G5 := G4.below hb5
    clear W4 G4
    go_wp2_with fail
    have js := recoveredFrom_impl s w5 hn2 (hm.below B5)
    unfold Rcd at js
    rw [hNK.out] at js
    refine js.mono ?_
    clear js
    rintro e w6 ⟨⟨aH, cH, rfl, H6⟩, hb6⟩
    have B6 := B5.trans (hb6.mono B5.size)
    have hs6 := hb6.size
    have W6 := W5.below hb6
    have G6 := G5.below hb6
    clear W5 G5
    go_wp2_with fail
    refine (eqUpdateS_self _ _ _ _ _ _ _ (H6.upds rfl HTN.out) (W6.upds rfl HTN.out)).mono ?_
    rintro e w7 ⟨rfl, hb7⟩
    have B7 := B6.trans (hb7.mono B6.size)
    have G7 := G6.below hb7
    clear W6 G6 H6
    go_wp2_with fail
    refine (heldU_any _ _ _ _ _ 1 _ G7 (by omega) (by omega) (by omega)).mono ?_
    rintro e w8 ⟨rfl, hb8⟩
    have B8 := B7.trans (hb8.mono B7.size)
    go_wp2_with fail
    go_ret
    exact ⟨rfl, B8⟩
  · have hni : ¬ (s.size : Int) ≤ 1048576 := by omega
    go_enter Tryz.func5, Tryz.ntmps5
    go_wp2_with fail
    go_ret
    exact ⟨rfl, Below.refl _ _⟩

theorem own : ownKnob Tryz.prog.godebug = none := by kernel_rfl
theorem laidOut : laidOutB Tryz.prog = true := by kernel_rfl
set_option maxRecDepth 100000 in
theorem lifted (os : Os) (started : os.Started) (H : Type) (enc : TypeId × Value → H) :
    ReturnsInHanded {} Tryz.checked os 5 .any (fun w args => (Rows.fnExactRecoveredFromSpec.pre enc Tryz.prog Tryz.f5 Rows.fnExactRecoveredFromRow.domain false w args ∧ laidMetH Tryz.prog Rows.fnExactRecoveredFromRow.laid w) ∧ sizedMet enc Tryz.prog Tryz.f5 (OpenSpec.ofChange Rows.fnExactRecoveredFromSpec) false w args) (Rows.fnExactRecoveredFromSpec.post enc Tryz.prog Tryz.f5 false true false false) := by
  refine returnsInHanded_and_shaped (C := Tryz.checked) (X := fun w _ => laidMetH Tryz.prog Rows.fnExactRecoveredFromRow.laid w) (fun _ _ _ hh h => h.of_heap hh) own started (by kernel_rfl) Tryz.func5
    (ChangeSpec.witness_shaped (enc := enc) (C := Tryz.checked) (os := os) (X := fun w _ => laidMetH Tryz.prog Rows.fnExactRecoveredFromRow.laid w) false (World.laidAll Tryz.prog os Rows.fnExactRecoveredFromRow.laid) #[.string ByteArray.empty] 8 (World.laidAll_os _ _ _) (World.shaped_of_ZipB (by kernel_rfl) (by kernel_rfl)) (by kernel_rfl) (by kernel_rfl) (by kernel_rfl) (by rw [MakeChecks.laidMetH_plain _ _ _ (by kernel_rfl)]; exact laidMet_laidAll _ (by kernel_rfl) (by kernel_rfl))) ?_
  intro W base args ds gs before hval0 hW hcnd _ hL hSh _
  have hval : ∀ (j : Nat) t v, Tryz.f5.params[j]? = some t → args[j]? = some v → Value.okWide Tryz.prog W .any base t v := hval0
  have hW' := hW
  obtain ⟨p, q, hA0, hV, rfl, hfz, hnd⟩ := hW
  have hA : DataW.TrodAll enc Tryz.prog W 0 (fun _ => true) true Tryz.f5.params.toList args.toList ds p := hA0
  rw [Tryz.params5] at hA hval
  obtain ⟨v0, vs0, d0, ds0, p0, q0, hargs, rfl, rfl, h0, r0⟩ := trodAll_cons hA
  obtain ⟨rfl, rfl, rfl⟩ := trodAll_nil r0
  obtain rfl : args = #[v0] := by cases args; simp_all
  obtain ⟨rfl, rfl⟩ := trodVars_none hV
  have k0 := h0
  have lt0 : ∀ x ∈ p0, x.block < W.heap.size := by obtain ⟨m, hm⟩ := k0; exact DataW.trod_lt m _ _ _ hm
  obtain ⟨a0, rfl, rfl, rfl, wfa0⟩ := Go.ChangeMaps.open_string Tryz.underlying9 (hval 0 9 v0 rfl rfl) h0
  clear hA0 hval0
  refine (walk a0 W wfa0 (maxIn_of hSh)).mono fun e W' ⟨he, bel⟩ => ?_
  subst he
  exact ⟨_, rfl, _, _, _, [], _, [], hW', trodAll_mk1 (shut_bool Tryz.underlying4 _), (trodAll_cons_mk (Below.trod laidOut (by kernel_rfl) (of_decide_eq_true (by kernel_rfl)) k0 bel lt0) trodAll_mk0), rfl, bel.frame _, fun h => by cases h⟩

theorem over : Rows.fnExactRecoveredFromRow.holds Tryz.pinned (OpenSpec.ofChange Rows.fnExactRecoveredFromSpec) :=
  OpenClaim.holds_of_wide 5 Tryz.f5 rfl rfl rfl rfl rfl rfl rfl ⟨rfl, rfl, rfl, rfl, rfl⟩ rfl rfl rfl rfl rfl (by kernel_rfl) Tryz.func5 (by kernel_rfl)
    (of_decide_eq_true (by kernel_rfl)) (by unfold Func.isWrapper; first | (rw [if_pos (by decide +kernel)]; kernel_rfl) | (rw [if_neg (by decide +kernel)]; exact ⟨rfl, rfl⟩))
    (fun os started H enc _ => lifted os started H enc)

theorem proved : Rows.FnExactRecoveredFromCardSaid :=
  Claim7.holds_tied_plain_at .later [] [.data, .pinned] true (true, "fb5dfe0266bfcff00cd570500e22cc13f36fdb954310a2fe6eadeb6fecce0375") true
    over (fun _ h => by cases h) (by kernel_rfl) (fun _ h => by cases h) fnExactRecoveredFrom_row_tie rfl ⟨rfl, rfl⟩ (by kernel_rfl) rfl
    (fun f fn hf hfn => by
      obtain rfl : f = 5 := Option.some.inj ((show Tryz.prog.funcNamed "loop.example/g00368/laws.FnExactRecoveredFrom" = some 5 by kernel_rfl).symm.trans hf) |>.symm
      obtain rfl : fn = Tryz.f5 := (Option.some.inj (Tryz.func5.symm.trans hfn)).symm
      exact ⟨by kernel_rfl, fun j t ht => by
        rw [Tryz.params5] at ht
        have hm : t ∈ [9] := by simpa using Array.mem_of_getElem? ht
        have hall : ([9].all fun u => !Tryz.prog.wantsStandIn u) = true := by kernel_rfl
        exact (show Tryz.prog.wantsStandIn t = false by simpa using List.all_eq_true.1 hall t hm)⟩)
    (by kernel_rfl)
end Go.Proofs.YtbhidjagmonnaaaGreatDoor.exRecoveredFrom
namespace Go.Proofs.YtbhidjagmonnaaaGreatDoor
theorem fnExactRecoveredFrom_holds : Rows.FnExactRecoveredFromCardSaid := exRecoveredFrom.proved
end Go.Proofs.YtbhidjagmonnaaaGreatDoor
