/-
  For every text the law FnExactReadUpdate answers true: ReadUpdate of the program answers as the model's does. The tables that the card lists are as the program's text lays them (the card's tie).
-/
import Derived.Test.YtjgcjopijblpkaaDoorZReadUpdate46
import Derived.Test.YtjgcjopijblpkaaDoorZReadUpdate47
import Derived.Test.YtjgcjopijblpkaaDoorZReadUpdate48
import Derived.Test.YtjgcjopijblpkaaDoorCards
import Derived.Test.YtjgcjopijblpkaaDoorTie
import Derived.SevenTiedAt
import Derived.Stop.LaidErr
import Derived.Lib.LaidTab
import Derived.LaidMore
import Derived.Lay
import Derived.ChangeSame
import Derived.ChangeVars
import Derived.JoinedOf
import Derived.Stop.Joined
import Derived.OpenShut
import Derived.ShutString
import Derived.ChangeOld
import Derived.ChangeMaps
import Derived.Lib.SmallJoins
namespace Go.Proofs.YtjgcjopijblpkaaDoor.exReadUpdate
open Go.ChangeShapes Go.WideShapes Go.ChangeAt Go.RowKit
set_option linter.unusedVariables false

theorem rdW_form (l : List UInt8) : ∃ (z : M1.Upd) (b : Bool), Hid (RdW l = .tuple #[.agg #[.int .i64 z.dr, .int .i64 z.dn, .int .i64 z.sw, .int .i64 z.sc, .int .i64 z.sr, .int .i64 z.k, .int .i64 z.tr, .int .i64 z.id, .int .i64 z.pa, .string z.s, .int .i64 z.st, .int .i64 z.en, .int .i64 z.lv], .bool b]) := by
  cases h : M1.rdU l with
  | none => exact ⟨M1.zeroU, false, rdW_none h⟩
  | some u => exact ⟨u, true, rdW_some h⟩

set_option maxHeartbeats 4000000 in
set_option maxRecDepth 100000 in
theorem walk (s : ByteArray) (w : World) (hs : s.size ≤ maxLen) (hm : MaxIn w) :
    Calls Tryd.prog 5 #[.string s] w fun e w' => e = .returned (.bool true) ∧ Below w.heap.size w w' := by
  obtain ⟨z, b, hz⟩ := rdW_form s.data.toList
  have hs2 := hs
  unfold maxLen at hs2
  by_cases hn : s.size ≤ 1048576
  · have hni : (s.size : Int) ≤ 1048576 := by omega
    go_enter Tryd.func5, Tryd.ntmps5
    go_wp2_with fail
    refine (readUpdate_spec s _ hs).mono ?_
    rw [hz.out]
    rintro e w1 ⟨rfl, hb1⟩
    have hA1 : Below w.heap.size w (w1.alloc (.cells #[.int .i64 z.dr, .int .i64 z.dn, .int .i64 z.sw, .int .i64 z.sc, .int .i64 z.sr, .int .i64 z.k, .int .i64 z.tr, .int .i64 z.id, .int .i64 z.pa, .string z.s, .int .i64 z.st, .int .i64 z.en, .int .i64 z.lv] 31)) := hb1.alloc hb1.size _
    have rp1 := uq_new w1 z 31
    go_upto_region 4 with fail
    obtain ⟨W1, hW1⟩ : ∃ W, w1.alloc (.cells #[.int .i64 z.dr, .int .i64 z.dn, .int .i64 z.sw, .int .i64 z.sc, .int .i64 z.sr, .int .i64 z.k, .int .i64 z.tr, .int .i64 z.id, .int .i64 z.pa, .string z.s, .int .i64 z.st, .int .i64 z.en, .int .i64 z.lv] 31) = W := ⟨_, rfl⟩
    rw [hW1] at hA1 rp1 ⊢
    clear hW1
    obtain ⟨p, hp⟩ : ∃ p, Hid (w1.heap.size = p) := ⟨_, rfl⟩
    rw [hp.out] at rp1 ⊢
    obtain ⟨hg, m, hmc⟩ := hm.below hA1
    go_wp2_with fail
    refine (readUpdate_impl s m _ hn hg hmc).mono ?_
    rw [hz.out]
    rintro e w2 ⟨rfl, hb2⟩
    have rp2 := rp1.below hb2
    have hB2 := hA1.trans (hb2.mono hA1.size)
    clear hmc hg rp1
    have hA3 : Below w2.heap.size w2 (w2.alloc (.cells #[.int .i64 z.dr, .int .i64 z.dn, .int .i64 z.sw, .int .i64 z.sc, .int .i64 z.sr, .int .i64 z.k, .int .i64 z.tr, .int .i64 z.id, .int .i64 z.pa, .string z.s, .int .i64 z.st, .int .i64 z.en, .int .i64 z.lv] 31)) := (Below.refl _ _).alloc (Nat.le_refl _) _
    have rp3 := rp2.below hA3
    have rq3 := uq_new w2 z 31
    have hB3 := hB2.trans (hA3.mono hB2.size)
    clear rp2 hA3
    go_upto_region 5 with fail
    obtain ⟨W3, hW3⟩ : ∃ W, w2.alloc (.cells #[.int .i64 z.dr, .int .i64 z.dn, .int .i64 z.sw, .int .i64 z.sc, .int .i64 z.sr, .int .i64 z.k, .int .i64 z.tr, .int .i64 z.id, .int .i64 z.pa, .string z.s, .int .i64 z.st, .int .i64 z.en, .int .i64 z.lv] 31) = W := ⟨_, rfl⟩
    rw [hW3] at hB3 rp3 rq3 ⊢
    clear hW3
    obtain ⟨q, hq⟩ : ∃ q, Hid (w2.heap.size = q) := ⟨_, rfl⟩
    rw [hq.out] at rq3 ⊢
    obtain ⟨c0, c1, c2, c3, c4, c5, c6, c7, c8, c9, c10, c11, c12⟩ := uq_cells rp3
    obtain ⟨d0, d1, d2, d3, d4, d5, d6, d7, d8, d9, d10, d11, d12⟩ := uq_cells rq3
    have cl := rp3.lt
    have dl := rq3.lt
    cases b with
    | false =>
      go_wp2_with fail
      refine (eqUpdate_self _ _ _ _ _ _ _ _ _ _ _ _ _ _).mono ?_
      rintro e w4 ⟨rfl, hb4⟩
      have hB4 := hB3.trans (hb4.mono hB3.size)
      go_wp2_with fail
      go_ret
      exact ⟨rfl, hB4⟩
    | true =>
      go_wp2_with fail
      refine (eqUpdate_self _ _ _ _ _ _ _ _ _ _ _ _ _ _).mono ?_
      rintro e w4 ⟨rfl, hb4⟩
      have hB4 := hB3.trans (hb4.mono hB3.size)
      go_wp2_with fail
      go_ret
      exact ⟨rfl, hB4⟩
  · have hni : ¬ (s.size : Int) ≤ 1048576 := by omega
    go_enter Tryd.func5, Tryd.ntmps5
    go_wp2_with fail
    go_ret
    exact ⟨rfl, Below.refl _ _⟩

theorem own : ownKnob Tryd.prog.godebug = none := by kernel_rfl
theorem laidOut : laidOutB Tryd.prog = true := by kernel_rfl
set_option maxRecDepth 100000 in
theorem lifted (os : Os) (started : os.Started) (H : Type) (enc : TypeId × Value → H) :
    ReturnsInHanded {} Tryd.checked os 5 .any (fun w args => (Rows.fnExactReadUpdateSpec.pre enc Tryd.prog Tryd.f5 Rows.fnExactReadUpdateRow.domain false w args ∧ laidMetH Tryd.prog Rows.fnExactReadUpdateRow.laid w) ∧ sizedMet enc Tryd.prog Tryd.f5 (OpenSpec.ofChange Rows.fnExactReadUpdateSpec) false w args) (Rows.fnExactReadUpdateSpec.post enc Tryd.prog Tryd.f5 false true false false) := by
  refine returnsInHanded_and_shaped (C := Tryd.checked) (X := fun w _ => laidMetH Tryd.prog Rows.fnExactReadUpdateRow.laid w) (fun _ _ _ hh h => h.of_heap hh) own started (by kernel_rfl) Tryd.func5
    (ChangeSpec.witness_shaped (enc := enc) (C := Tryd.checked) (os := os) (X := fun w _ => laidMetH Tryd.prog Rows.fnExactReadUpdateRow.laid w) false (World.laidAll Tryd.prog os Rows.fnExactReadUpdateRow.laid) #[.string ByteArray.empty] 8 (World.laidAll_os _ _ _) (World.shaped_of_ZipB (by kernel_rfl) (by kernel_rfl)) (by kernel_rfl) (by kernel_rfl) (by kernel_rfl) (by rw [MakeChecks.laidMetH_plain _ _ _ (by kernel_rfl)]; exact laidMet_laidAll _ (by kernel_rfl) (by kernel_rfl))) ?_
  intro W base args ds gs before hval0 hW hcnd _ hL hSh _
  have hval : ∀ (j : Nat) t v, Tryd.f5.params[j]? = some t → args[j]? = some v → Value.okWide Tryd.prog W .any base t v := hval0
  have hW' := hW
  obtain ⟨p, q, hA0, hV, rfl, hfz, hnd⟩ := hW
  have hA : DataW.TrodAll enc Tryd.prog W 0 (fun _ => true) true Tryd.f5.params.toList args.toList ds p := hA0
  rw [Tryd.params5] at hA hval
  obtain ⟨v0, vs0, d0, ds0, p0, q0, hargs, rfl, rfl, h0, r0⟩ := trodAll_cons hA
  obtain ⟨rfl, rfl, rfl⟩ := trodAll_nil r0
  obtain rfl : args = #[v0] := by cases args; simp_all
  obtain ⟨rfl, rfl⟩ := trodVars_none hV
  have k0 := h0
  have lt0 : ∀ x ∈ p0, x.block < W.heap.size := by obtain ⟨m, hm⟩ := k0; exact DataW.trod_lt m _ _ _ hm
  obtain ⟨a0, rfl, rfl, rfl, wfa0⟩ := Go.ChangeMaps.open_string Tryd.underlying9 (hval 0 9 v0 rfl rfl) h0
  clear hA0 hval0
  refine (walk a0 W wfa0 (maxIn_of hSh)).mono fun e W' ⟨he, bel⟩ => ?_
  subst he
  exact ⟨_, rfl, _, _, _, [], _, [], hW', trodAll_mk1 (shut_bool Tryd.underlying4 _), (trodAll_cons_mk (Below.trod laidOut (by kernel_rfl) (of_decide_eq_true (by kernel_rfl)) k0 bel lt0) trodAll_mk0), rfl, bel.frame _, fun h => by cases h⟩

theorem over : Rows.fnExactReadUpdateRow.holds Tryd.pinned (OpenSpec.ofChange Rows.fnExactReadUpdateSpec) :=
  OpenClaim.holds_of_wide 5 Tryd.f5 rfl rfl rfl rfl rfl rfl rfl ⟨rfl, rfl, rfl, rfl, rfl⟩ rfl rfl rfl rfl rfl (by kernel_rfl) Tryd.func5 (by kernel_rfl)
    (of_decide_eq_true (by kernel_rfl)) (by unfold Func.isWrapper; first | (rw [if_pos (by decide +kernel)]; kernel_rfl) | (rw [if_neg (by decide +kernel)]; exact ⟨rfl, rfl⟩))
    (fun os started H enc _ => lifted os started H enc)

theorem proved : Rows.FnExactReadUpdateCardSaid :=
  Claim7.holds_tied_plain_at .later [] [.data, .pinned] true (true, "c6af120a7bbcce473cf4f4960bd49cdc13718dfeedafa9d4aa841a82a0c18a08") true
    over (fun _ h => by cases h) (by kernel_rfl) (fun _ h => by cases h) fnExactReadUpdate_row_tie rfl ⟨rfl, rfl⟩ (by kernel_rfl) rfl
    (fun f fn hf hfn => by
      obtain rfl : f = 5 := Option.some.inj ((show Tryd.prog.funcNamed "loop.example/g00368/laws.FnExactReadUpdate" = some 5 by kernel_rfl).symm.trans hf) |>.symm
      obtain rfl : fn = Tryd.f5 := (Option.some.inj (Tryd.func5.symm.trans hfn)).symm
      exact ⟨by kernel_rfl, fun j t ht => by
        rw [Tryd.params5] at ht
        have hm : t ∈ [9] := by simpa using Array.mem_of_getElem? ht
        have hall : ([9].all fun u => !Tryd.prog.wantsStandIn u) = true := by kernel_rfl
        exact (show Tryd.prog.wantsStandIn t = false by simpa using List.all_eq_true.1 hall t hm)⟩)
    (by kernel_rfl)
end Go.Proofs.YtjgcjopijblpkaaDoor.exReadUpdate
namespace Go.Proofs.YtjgcjopijblpkaaDoor
theorem fnExactReadUpdate_holds : Rows.FnExactReadUpdateCardSaid := exReadUpdate.proved
end Go.Proofs.YtjgcjopijblpkaaDoor
