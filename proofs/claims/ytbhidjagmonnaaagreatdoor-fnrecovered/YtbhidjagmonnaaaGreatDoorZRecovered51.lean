/-
  For every code the law FnRecovered answers true: what is recovered is a right set, and its updates stand in what was read, up to the place that is told. The tables that the card lists are as the program's text lays them (the card's tie).
-/
import Derived.Test.YtbhidjagmonnaaaGreatDoorZRecovered44
import Derived.Test.YtbhidjagmonnaaaGreatDoorZRecovered49
import Derived.Test.YtbhidjagmonnaaaGreatDoorZRecovered50
import Derived.Test.YtbhidjagmonnaaaGreatDoorZRecovered29
import Derived.Test.YtbhidjagmonnaaaGreatDoorZRecovered26
import Derived.Test.YtbhidjagmonnaaaGreatDoorCards
import Derived.Test.YtbhidjagmonnaaaGreatDoorTie
import Derived.SevenTiedAt
import Derived.Stop.LaidErr
import Derived.Lib.LaidTab
import Derived.LaidMore
import Derived.Lay
import Derived.ChangeSame
import Derived.ChangeVars
import Derived.JoinedOf
import Derived.Stop.Joined
import Derived.OpenShut
import Derived.ShutString
import Derived.ChangeOld
import Derived.ChangeMaps
import Derived.Lib.SmallJoins
namespace Go.Proofs.YtbhidjagmonnaaaGreatDoor.recovered
open Go.ChangeShapes Go.WideShapes Go.ChangeAt Go.RowKit
set_option linter.unusedVariables false
set_option linter.unusedSimpArgs false

theorem bigR_any (av : Option Addr) (len cap : Nat) (w : World) (hc : len ≤ cap) (hm : cap ≤ maxLen) :
    Calls Tryz.prog 6 #[.slice av len cap] w fun e w' => e = .returned (.bool (decide ((1048576 : Int) < (len : Int)))) ∧ w' = w := by
  unfold maxLen at hm
  go_enter Tryz.func6, Tryz.ntmps6
  go_wp2
  go_ret
  exact ⟨rfl, rfl⟩

set_option maxHeartbeats 4000000 in
set_option maxRecDepth 100000 in
theorem walk (av : Option Addr) (len cap : Nat) (w : World) (h : IsBytes w av len cap) (hm : MaxIn w) :
    Calls Tryz.prog 4 #[.slice av len cap] w fun e w' => e = .returned (.bool true) ∧ Below w.heap.size w w' := by
  by_cases hl : (1048576 : Int) < (len : Int)
  · go_enter Tryz.func4, Tryz.ntmps4
    go_wp2_with fail
    refine (bigR_any _ _ _ _ h.hc h.hm).mono ?_
    rw [decide_eq_true hl]
    rintro e w0 ⟨rfl, rfl⟩
    go_wp2_with fail
    go_ret
    exact ⟨rfl, Below.refl _ _⟩
  go_enter Tryz.func4, Tryz.ntmps4
  go_wp2_with fail
  refine (bigR_any _ _ _ _ h.hc h.hm).mono ?_
  rw [decide_eq_false (by omega : ¬ (1048576 : Int) < (len : Int))]
  rintro e w0 ⟨rfl, rfl⟩
  clear hl
  go_wp2_with fail
  refine (drawRecoveredFrom_any _ _ _ _ h).mono ?_
  rintro e w1 ⟨s, rfl, hsz, B1⟩
  have hok := M1.rcv_ok (s := s) s.size [] 0 (by omega) (Nat.zero_le _) rfl
  have hcut := M1.rcv_cut (s := s) s.size [] 0 (by omega) (Nat.zero_le _) rfl
  obtain ⟨N, K, hNK⟩ : ∃ N K, Hid (M1.rcv s [] 0 = (N, K)) := ⟨_, _, rfl⟩
  rw [hNK.out] at hok hcut
  have HC : Hid (M1.rcv (s.extract 0 K) [] 0 = (N, K)) := hcut
  have HOK : Hid (M1.setOk N = true) := hok.1
  have HTN : Hid (∀ i, i < N.length → (M1.up N i).s.size ≤ maxLen) := ok_short hok.1
  have hN0 := M1.setOk_len hok.1
  have hK0 : K ≤ s.size := hok.2.2
  clear hok hcut
  have hn2 : s.size ≤ 2000000 := by omega
  go_wp2_with fail
  have js := recoveredFrom_impl s w1 hn2 (hm.below B1)
  unfold Rcd at js
  rw [hNK.out] at js
  refine js.mono ?_
  clear js
  rintro e w2 ⟨⟨aG, cG, rfl, G2⟩, hb2⟩
  have B2 := B1.trans (hb2.mono B1.size)
  go_wp2_with fail
  have js := recoveredFrom_spec s w2 hn2
  unfold Rcd at js
  rw [hNK.out] at js
  refine js.mono ?_
  clear js
  rintro e w3 ⟨⟨aW, cW, rfl, W3⟩, hb3⟩
  have B3 := B2.trans (hb3.mono B2.size)
  have G3 := G2.below hb3
  clear G2
  have i0 : ¬ ((K : Int) < 0) := by omega
  have i1 : ¬ ((s.size : Int) < (K : Int)) := by omega
  have i2 : (0 : Int) ≤ (K : Int) := by omega
  have i3 : (K : Int) ≤ (s.size : Int) := by omega
  go_wp2_with fail
  refine (sameSet_self _ _ _ _ _ _ _ (G3.upds rfl HTN.out) (W3.upds rfl HTN.out)).mono ?_
  rintro e w4 ⟨rfl, hb4⟩
  have B4 := B3.trans (hb4.mono B3.size)
  have G4 := G3.below hb4
  clear G3 W3
  have hes : (s.extract 0 K).size ≤ 2000000 := by rw [ByteArray.size_extract]; omega
  go_wp2_with fail
  have js := recoveredFrom_impl (s.extract 0 K) w4 hes (hm.below B4)
  unfold Rcd at js
  rw [HC.out] at js
  refine js.mono ?_
  clear js
  rintro e w5 ⟨⟨aM, cM, rfl, M5⟩, hb5⟩
  have B5 := B4.trans (hb5.mono B4.size)
  have G5 := G4.below hb5
  clear G4
  go_wp2_with fail
  refine (drawFrameOf_any _ _ _ _ (h.below (Nat.le_refl _) B5)).mono ?_
  rintro e w6 ⟨f, rfl, hf, hb6⟩
  have B6 := B5.trans (hb6.mono B5.size)
  have G6 := G5.below hb6
  have M6 := M5.below hb6
  clear G5 M5
  go_wp2_with fail
  refine (setOk_impl _ _ _ _ _ (G6.upds rfl HTN.out)).mono ?_
  rw [HOK.out]
  rintro e w7 ⟨rfl, hb7⟩
  have B7 := B6.trans (hb7.mono B6.size)
  have G7 := G6.below hb7
  have M7 := M6.below hb7
  clear G6 M6
  go_wp2_with fail
  refine (sameSet_self _ _ _ _ _ _ _ (M7.upds rfl HTN.out) (G7.upds rfl HTN.out)).mono ?_
  rintro e w8 ⟨rfl, hb8⟩
  have B8 := B7.trans (hb8.mono B7.size)
  have hfm : f.size ≤ maxLen := by unfold maxLen; omega
  go_wp2_with fail
  refine (frameOf_impl f _ hfm).mono ?_
  rintro e w9 ⟨rfl, hb9⟩
  have B9 := B8.trans (hb9.mono B8.size)
  go_wp2_with fail
  refine (frameOf_spec f _ hfm).mono ?_
  rintro e w10 ⟨rfl, hb10⟩
  have B10 := B9.trans (hb10.mono B9.size)
  go_wp2_with fail
  go_ret
  exact ⟨rfl, B10⟩

theorem own : ownKnob Tryz.prog.godebug = none := by kernel_rfl
theorem laidOut : laidOutB Tryz.prog = true := by kernel_rfl
set_option maxRecDepth 100000 in
theorem lifted (os : Os) (started : os.Started) (H : Type) (enc : TypeId × Value → H) :
    ReturnsInHanded {} Tryz.checked os 4 .any (fun w args => (Rows.fnRecoveredSpec.pre enc Tryz.prog Tryz.f4 Rows.fnRecoveredRow.domain false w args ∧ laidMetH Tryz.prog Rows.fnRecoveredRow.laid w) ∧ sizedMet enc Tryz.prog Tryz.f4 (OpenSpec.ofChange Rows.fnRecoveredSpec) false w args) (Rows.fnRecoveredSpec.post enc Tryz.prog Tryz.f4 false true false false) := by
  refine returnsInHanded_and_shaped (C := Tryz.checked) (X := fun w _ => laidMetH Tryz.prog Rows.fnRecoveredRow.laid w) (fun _ _ _ hh h => h.of_heap hh) own started (by kernel_rfl) Tryz.func4
    (ChangeSpec.witness_shaped (enc := enc) (C := Tryz.checked) (os := os) (X := fun w _ => laidMetH Tryz.prog Rows.fnRecoveredRow.laid w) false (World.laidAll Tryz.prog os Rows.fnRecoveredRow.laid) #[.slice none 0 0] 8 (World.laidAll_os _ _ _) (World.shaped_of_ZipB (by kernel_rfl) (by kernel_rfl)) (by kernel_rfl) (by kernel_rfl) (by kernel_rfl) (by rw [MakeChecks.laidMetH_plain _ _ _ (by kernel_rfl)]; exact laidMet_laidAll _ (by kernel_rfl) (by kernel_rfl))) ?_
  intro W base args ds gs before hval0 hW hcnd _ hL hSh _
  have hval : ∀ (j : Nat) t v, Tryz.f4.params[j]? = some t → args[j]? = some v → Value.okWide Tryz.prog W .any base t v := hval0
  have hW' := hW
  obtain ⟨p, q, hA0, hV, rfl, hfz, hnd⟩ := hW
  have hA : DataW.TrodAll enc Tryz.prog W 0 (fun _ => true) true Tryz.f4.params.toList args.toList ds p := hA0
  rw [Tryz.params4] at hA hval
  obtain ⟨v0, vs0, d0, ds0, p0, q0, hargs, rfl, rfl, h0, r0⟩ := trodAll_cons hA
  obtain ⟨rfl, rfl, rfl⟩ := trodAll_nil r0
  obtain rfl : args = #[v0] := by cases args; simp_all
  obtain ⟨rfl, rfl⟩ := trodVars_none hV
  have k0 := h0
  have lt0 : ∀ x ∈ p0, x.block < W.heap.size := by obtain ⟨m, hm⟩ := k0; exact DataW.trod_lt m _ _ _ hm
  obtain ⟨a0, l0, c0, rfl⟩ := okWide_slice Tryz.underlying22 (hval 0 22 v0 rfl rfl)
  obtain ⟨fu0, hf0⟩ := h0
  have by0 := open_bytes hf0
  clear hA0 hval0
  refine (walk a0 l0 c0 W by0 (maxIn_of hSh)).mono fun e W' ⟨he, bel⟩ => ?_
  subst he
  exact ⟨_, rfl, _, _, _, [], _, [], hW', trodAll_mk1 (shut_bool Tryz.underlying4 _), (trodAll_cons_mk (Below.trod laidOut (by kernel_rfl) (of_decide_eq_true (by kernel_rfl)) k0 bel lt0) trodAll_mk0), rfl, bel.frame _, fun h => by cases h⟩

theorem over : Rows.fnRecoveredRow.holds Tryz.pinned (OpenSpec.ofChange Rows.fnRecoveredSpec) :=
  OpenClaim.holds_of_wide 4 Tryz.f4 rfl rfl rfl rfl rfl rfl rfl ⟨rfl, rfl, rfl, rfl, rfl⟩ rfl rfl rfl rfl rfl (by kernel_rfl) Tryz.func4 (by kernel_rfl)
    (of_decide_eq_true (by kernel_rfl)) (by unfold Func.isWrapper; first | (rw [if_pos (by decide +kernel)]; kernel_rfl) | (rw [if_neg (by decide +kernel)]; exact ⟨rfl, rfl⟩))
    (fun os started H enc _ => lifted os started H enc)

theorem proved : Rows.FnRecoveredCardSaid :=
  Claim7.holds_tied_plain_at .later [] [.data, .pinned] true (true, "fb5dfe0266bfcff00cd570500e22cc13f36fdb954310a2fe6eadeb6fecce0375") true
    over (fun _ h => by cases h) (by kernel_rfl) (fun _ h => by cases h) fnRecovered_row_tie rfl ⟨rfl, rfl⟩ (by kernel_rfl) rfl
    (fun f fn hf hfn => by
      obtain rfl : f = 4 := Option.some.inj ((show Tryz.prog.funcNamed "loop.example/g00368/laws.FnRecovered" = some 4 by kernel_rfl).symm.trans hf) |>.symm
      obtain rfl : fn = Tryz.f4 := (Option.some.inj (Tryz.func4.symm.trans hfn)).symm
      exact ⟨by kernel_rfl, fun j t ht => by
        rw [Tryz.params4] at ht
        have hm : t ∈ [22] := by simpa using Array.mem_of_getElem? ht
        have hall : ([22].all fun u => !Tryz.prog.wantsStandIn u) = true := by kernel_rfl
        exact (show Tryz.prog.wantsStandIn t = false by simpa using List.all_eq_true.1 hall t hm)⟩)
    (by kernel_rfl)
end Go.Proofs.YtbhidjagmonnaaaGreatDoor.recovered
namespace Go.Proofs.YtbhidjagmonnaaaGreatDoor
theorem fnRecovered_holds : Rows.FnRecoveredCardSaid := recovered.proved
end Go.Proofs.YtbhidjagmonnaaaGreatDoor
