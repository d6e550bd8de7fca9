/-
  For every code the law FnSegments answers true: a set comes back from its segment; one that is cut anywhere gives the first of its updates, and nothing else. The tables that the card lists are as the program's text lays them (the card's tie).
-/
import Derived.Test.YtbhidjagmonnaaaGreatDoorZSegments44
import Derived.Test.YtbhidjagmonnaaaGreatDoorZSegments49
import Derived.Test.YtbhidjagmonnaaaGreatDoorZSegments50
import Derived.Test.YtbhidjagmonnaaaGreatDoorZSegments35
import Derived.Test.YtbhidjagmonnaaaGreatDoorZSegments26
import Derived.Test.YtbhidjagmonnaaaGreatDoorCards
import Derived.Test.YtbhidjagmonnaaaGreatDoorTie
import Derived.SevenTiedAt
import Derived.Stop.LaidErr
import Derived.Lib.LaidTab
import Derived.LaidMore
import Derived.Lay
import Derived.ChangeSame
import Derived.ChangeVars
import Derived.JoinedOf
import Derived.Stop.Joined
import Derived.OpenShut
import Derived.ShutString
import Derived.ChangeOld
import Derived.ChangeMaps
import Derived.Lib.SmallJoins
namespace Go.Proofs.YtbhidjagmonnaaaGreatDoor.segments
open Go.ChangeShapes Go.WideShapes Go.ChangeAt Go.RowKit
set_option linter.unusedVariables false
set_option linter.unusedSimpArgs false

theorem tab_of {W : World} (h : laidMetH Tryz.prog Rows.fnSegmentsRow.laid W) : Tab W.heap.size W := by
  rw [MakeChecks.laidMetH_plain _ _ _ (by kernel_rfl)] at h
  refine Lib.tabBelow_of_tabIs ?_
  have h3 : laidMet Tryz.prog (("internal/strconv.uint64pow10", Lib.tabData .u64 Lib.pow10Tab) :: Rows.fnSegmentsRow.laid.drop 3) W := h.tail.tail
  exact Lib.tabIs_of_head (g := 0) (t := 151) (e := 125) (n := 20) (by kernel_rfl) (by kernel_rfl) (by kernel_rfl) (by kernel_rfl) (by kernel_rfl) (by kernel_rfl) h3
/-- The first i of a slice of updates. -/
theorem isUpds_first {w : World} {av : Option Addr} {n c i : Nat} {us : List M1.Upd} (h : IsUpds w av n c us) (hi : i ≤ n) : IsUpds w av i c (us.take i) := by
  refine ⟨by rw [List.length_take, h.hlen]; omega, by have := h.hcap; omega, h.hmost, fun j hj => ?_, h.hlies.elim (fun h0 => .inl (by omega)) fun ⟨b, off, e, hb, hc⟩ => .inr ⟨b, off, e, hb, fun j hj => ?_⟩⟩
  · rw [M1.up_take hj]; exact h.htxt j (by omega)
  · rw [M1.up_take hj]; exact hc j (by omega)

set_option maxHeartbeats 4000000 in
set_option maxRecDepth 100000 in
theorem walk (av : Option Addr) (len cap : Nat) (w : World) (h : IsBytes w av len cap) (tab : Tab w.heap.size w) (hm : MaxIn w) :
    Calls Tryz.prog 3 #[.slice av len cap] w fun e w' => e = .returned (.bool true) ∧ Below w.heap.size w w' := by
  by_cases hl : (1048576 : Int) < (len : Int)
  · go_enter Tryz.func3, Tryz.ntmps3
    go_wp2_with fail
    refine (big_any _ _ _ _ h.hc h.hm).mono ?_
    rw [decide_eq_true hl]
    rintro e w0 ⟨rfl, rfl⟩
    go_wp2_with fail
    go_ret
    exact ⟨rfl, Below.refl _ _⟩
  have hlen : len ≤ 1048576 := by omega
  go_enter Tryz.func3, Tryz.ntmps3
  go_wp2_with fail
  refine (big_any _ _ _ _ h.hc h.hm).mono ?_
  rw [decide_eq_false (by omega : ¬ (1048576 : Int) < (len : Int))]
  rintro e w0 ⟨rfl, rfl⟩
  clear hl
  go_wp2_with fail
  refine (drawSegmentOf_any _ _ _ _ h).mono ?_
  rintro e w1 ⟨bv, c, us, rfl, hl11, hsh, U1, B1⟩
  have hsz : (M1.seg us).size ≤ 10000 := by
    unfold M1.seg
    split
    · have := M1.segTo_size us us.length
      omega
    · exact Nat.zero_le _
  obtain ⟨x, hx⟩ : ∃ x, Hid (M1.seg us = x) := ⟨_, rfl⟩
  obtain ⟨b, hb⟩ : ∃ b, Hid (M1.segOk us = b) := ⟨_, rfl⟩
  rw [hx.out] at hsz
  go_wp2_with fail
  refine (segmentOf_impl _ _ _ _ _ U1 (tab_more (tab.on B1) B1.size)).mono ?_
  rw [hx.out, hb.out]
  rintro e w2 ⟨rfl, hb2⟩
  have B2 := B1.trans (hb2.mono B1.size)
  have U2 := U1.below hb2
  clear U1
  go_wp2_with fail
  refine (segmentOf_spec _ _ _ _ _ U2).mono ?_
  rw [hx.out, hb.out]
  rintro e w3 ⟨rfl, hb3⟩
  have B3 := B2.trans (hb3.mono B2.size)
  have U3 := U2.below hb3
  clear U2
  cases b with
  | false =>
    go_wp2_with fail
    go_ret
    exact ⟨rfl, B3⟩
  | true =>
    obtain ⟨d, hd⟩ : ∃ d, Hid (M1.setOk us = d) := ⟨_, rfl⟩
    go_wp2_with fail
    refine (setOk_spec _ _ _ _ _ U3).mono ?_
    rw [hd.out]
    rintro e w4 ⟨rfl, hb4⟩
    have B4 := B3.trans (hb4.mono B3.size)
    have U4 := U3.below hb4
    clear U3
    cases d with
    | false =>
      go_wp2_with fail
      go_ret
      exact ⟨rfl, B4⟩
    | true =>
      have hxs : M1.segTo us us.length = x := by
        have := hx.out
        unfold M1.seg at this
        rw [if_pos hb.out] at this; exact this
      obtain ⟨K, hK⟩ : ∃ K : Nat, Hid (len % (x.size + 1) = K) := ⟨_, rfl⟩
      have hKx : K ≤ x.size := by
        have := Nat.mod_lt len (show 0 < x.size + 1 by omega)
        have := hK.out; omega
      obtain ⟨i0, _, i1, _, i2, i3⟩ := M1.seg_cut hd.out (K := (M1.segTo us us.length).size) (Nat.le_refl _) us.length 0 (by omega) (Nat.zero_le _) (Nat.zero_le _)
      have i2 := i2 rfl
      subst i2
      rw [M1.ext_all, List.take_length, hxs] at i3
      have HW : Hid (M1.rcv x [] 0 = (us, x.size)) := i3
      obtain ⟨i, _, j1, j2, _, j3⟩ := M1.seg_cut hd.out (K := K) (by rw [hxs]; exact hKx) us.length 0 (by omega) (Nat.zero_le _) (Nat.zero_le _)
      have j4 := M1.seg_part (us := us) j1
      rw [hxs] at j3 j4
      obtain ⟨a, ha⟩ : ∃ a, Hid ((M1.segTo us i).size = a) := ⟨_, rfl⟩
      rw [ha.out] at j2 j3 j4
      have HF : Hid (M1.rcv (x.extract 0 K) [] 0 = (us.take i, a)) := j3
      have HS : Hid (M1.seg (us.take i) = x.extract 0 a) := (by
        have ho : M1.setOk (us.take i) = true := M1.ok_take hd.out i
        have hk : M1.segOk (us.take i) = true := by
          unfold M1.segOk
          rw [M1.ok_allR ho]
          simp; have := M1.setOk_len hd.out; omega
        unfold M1.seg
        rw [if_pos hk, j4, show (us.take i).length = i by simp; omega, M1.segTo_take _ (Nat.le_refl _)] : _ = _)
      clear i3 j3 j4 i1 hxs
      have hKi : (len : Int) % ((x.size : Int) + 1) = (K : Int) := by rw [← hK.out]; simp
      have q0 : (0 : Int) ≤ (K : Int) := by omega
      have q1 : (K : Int) ≤ (x.size : Int) := by omega
      have q2 : (0 : Int) ≤ (a : Int) := by omega
      have q3 : (a : Int) ≤ (x.size : Int) := by omega
      have q4 : (a : Int) ≤ (K : Int) := by omega
      go_wp2_with fail
      have js := recoveredFrom_impl x w4 (by omega) (hm.below B4)
      unfold Rcd at js
      rw [HW.out] at js
      refine js.mono ?_
      clear js
      rintro e w5 ⟨⟨aM, cM, rfl, M5⟩, hb5⟩
      have B5 := B4.trans (hb5.mono B4.size)
      have U5 := U4.below hb5
      clear U4
      go_wp2_with fail
      have js := recoveredFrom_impl (x.extract 0 K) w5 (by rw [ByteArray.size_extract]; omega) (hm.below B5)
      unfold Rcd at js
      rw [HF.out] at js
      refine js.mono ?_
      clear js
      have hFl : (us.take i).length = i := by simp; omega
      have HOK : Hid (M1.setOk (us.take i) = true) := M1.ok_take hd.out i
      obtain ⟨F, hF⟩ : ∃ F, Hid (us.take i = F) := ⟨_, rfl⟩
      rw [hF.out] at hFl HOK HS ⊢
      have HFl : Hid (F.length = i) := hFl
      clear hFl
      have HTF : Hid (∀ j, j < F.length → (M1.up F j).s.size ≤ maxLen) := ok_short HOK.out
      rintro e w6 ⟨⟨aF, cF, rfl, F6⟩, hb6⟩
      rw [HFl.out] at F6 ⊢
      have B6 := B5.trans (hb6.mono B5.size)
      have U6 := U5.below hb6
      have M6 := M5.below hb6
      clear U5 M5
      have VF := F6.upds HFl.out (by rw [← HFl.out]; exact HTF.out)
      go_wp2_with fail
      refine (segmentOf_impl _ _ _ _ _ VF (tab_more (tab.on B6) B6.size)).mono ?_
      rw [HS.out]
      rintro e w7 ⟨rfl, hb7⟩
      have B7 := B6.trans (hb7.mono B6.size)
      have U7 := U6.below hb7
      have M7 := M6.below hb7
      have V7 := VF.below hb7
      clear U6 M6 VF F6
      go_wp2_with fail
      refine (sameSet_self _ _ _ _ _ _ _ (M7.upds rfl hsh.max) U7).mono ?_
      rintro e w8 ⟨rfl, hb8⟩
      have B8 := B7.trans (hb8.mono B7.size)
      have U8 := U7.below hb8
      have V8 := V7.below hb8
      clear U7 M7 V7
      have hic : i ≤ c := by have := U8.hcap; omega
      have r0 : (0 : Int) ≤ (i : Int) := by omega
      have r1 : (i : Int) ≤ (c : Int) := by omega
      have W8 := isUpds_first U8 j1
      rw [hF.out] at W8
      go_wp2_with fail
      refine (sameSet_self _ _ _ _ _ _ _ V8 W8).mono ?_
      rintro e w9 ⟨rfl, hb9⟩
      have B9 := B8.trans (hb9.mono B8.size)
      go_wp2_with fail
      go_ret
      exact ⟨rfl, B9⟩

theorem own : ownKnob Tryz.prog.godebug = none := by kernel_rfl
theorem laidOut : laidOutB Tryz.prog = true := by kernel_rfl
set_option maxRecDepth 100000 in
theorem lifted (os : Os) (started : os.Started) (H : Type) (enc : TypeId × Value → H) :
    ReturnsInHanded {} Tryz.checked os 3 .any (fun w args => (Rows.fnSegmentsSpec.pre enc Tryz.prog Tryz.f3 Rows.fnSegmentsRow.domain false w args ∧ laidMetH Tryz.prog Rows.fnSegmentsRow.laid w) ∧ sizedMet enc Tryz.prog Tryz.f3 (OpenSpec.ofChange Rows.fnSegmentsSpec) false w args) (Rows.fnSegmentsSpec.post enc Tryz.prog Tryz.f3 false true false false) := by
  refine returnsInHanded_and_shaped (C := Tryz.checked) (X := fun w _ => laidMetH Tryz.prog Rows.fnSegmentsRow.laid w) (fun _ _ _ hh h => h.of_heap hh) own started (by kernel_rfl) Tryz.func3
    (ChangeSpec.witness_shaped (enc := enc) (C := Tryz.checked) (os := os) (X := fun w _ => laidMetH Tryz.prog Rows.fnSegmentsRow.laid w) false (World.laidAll Tryz.prog os Rows.fnSegmentsRow.laid) #[.slice none 0 0] 8 (World.laidAll_os _ _ _) (World.shaped_of_ZipB (by kernel_rfl) (by kernel_rfl)) (by kernel_rfl) (by kernel_rfl) (by kernel_rfl) (by rw [MakeChecks.laidMetH_plain _ _ _ (by kernel_rfl)]; exact laidMet_laidAll _ (by kernel_rfl) (by kernel_rfl))) ?_
  intro W base args ds gs before hval0 hW hcnd _ hL hSh _
  have hval : ∀ (j : Nat) t v, Tryz.f3.params[j]? = some t → args[j]? = some v → Value.okWide Tryz.prog W .any base t v := hval0
  have hW' := hW
  obtain ⟨p, q, hA0, hV, rfl, hfz, hnd⟩ := hW
  have hA : DataW.TrodAll enc Tryz.prog W 0 (fun _ => true) true Tryz.f3.params.toList args.toList ds p := hA0
  rw [Tryz.params3] at hA hval
  obtain ⟨v0, vs0, d0, ds0, p0, q0, hargs, rfl, rfl, h0, r0⟩ := trodAll_cons hA
  obtain ⟨rfl, rfl, rfl⟩ := trodAll_nil r0
  obtain rfl : args = #[v0] := by cases args; simp_all
  obtain ⟨rfl, rfl⟩ := trodVars_none hV
  have k0 := h0
  have lt0 : ∀ x ∈ p0, x.block < W.heap.size := by obtain ⟨m, hm⟩ := k0; exact DataW.trod_lt m _ _ _ hm
  obtain ⟨a0, l0, c0, rfl⟩ := okWide_slice Tryz.underlying22 (hval 0 22 v0 rfl rfl)
  obtain ⟨fu0, hf0⟩ := h0
  have by0 := open_bytes hf0
  clear hA0 hval0
  refine (walk a0 l0 c0 W by0 (tab_of hL) (maxIn_of hSh)).mono fun e W' ⟨he, bel⟩ => ?_
  subst he
  exact ⟨_, rfl, _, _, _, [], _, [], hW', trodAll_mk1 (shut_bool Tryz.underlying4 _), (trodAll_cons_mk (Below.trod laidOut (by kernel_rfl) (of_decide_eq_true (by kernel_rfl)) k0 bel lt0) trodAll_mk0), rfl, bel.frame _, fun h => by cases h⟩

theorem over : Rows.fnSegmentsRow.holds Tryz.pinned (OpenSpec.ofChange Rows.fnSegmentsSpec) :=
  OpenClaim.holds_of_wide 3 Tryz.f3 rfl rfl rfl rfl rfl rfl rfl ⟨rfl, rfl, rfl, rfl, rfl⟩ rfl rfl rfl rfl rfl (by kernel_rfl) Tryz.func3 (by kernel_rfl)
    (of_decide_eq_true (by kernel_rfl)) (by unfold Func.isWrapper; first | (rw [if_pos (by decide +kernel)]; kernel_rfl) | (rw [if_neg (by decide +kernel)]; exact ⟨rfl, rfl⟩))
    (fun os started H enc _ => lifted os started H enc)

theorem proved : Rows.FnSegmentsCardSaid :=
  Claim7.holds_tied_plain_at .later [] [.data, .data, .data, .data, .pinned] true (true, "fb5dfe0266bfcff00cd570500e22cc13f36fdb954310a2fe6eadeb6fecce0375") true
    over (fun _ h => by cases h) (by kernel_rfl) (fun _ h => by cases h) fnSegments_row_tie rfl ⟨rfl, rfl⟩ (by kernel_rfl) rfl
    (fun f fn hf hfn => by
      obtain rfl : f = 3 := Option.some.inj ((show Tryz.prog.funcNamed "loop.example/g00368/laws.FnSegments" = some 3 by kernel_rfl).symm.trans hf) |>.symm
      obtain rfl : fn = Tryz.f3 := (Option.some.inj (Tryz.func3.symm.trans hfn)).symm
      exact ⟨by kernel_rfl, fun j t ht => by
        rw [Tryz.params3] at ht
        have hm : t ∈ [22] := by simpa using Array.mem_of_getElem? ht
        have hall : ([22].all fun u => !Tryz.prog.wantsStandIn u) = true := by kernel_rfl
        exact (show Tryz.prog.wantsStandIn t = false by simpa using List.all_eq_true.1 hall t hm)⟩)
    (by kernel_rfl)
end Go.Proofs.YtbhidjagmonnaaaGreatDoor.segments
namespace Go.Proofs.YtbhidjagmonnaaaGreatDoor
theorem fnSegments_holds : Rows.FnSegmentsCardSaid := segments.proved
end Go.Proofs.YtbhidjagmonnaaaGreatDoor
