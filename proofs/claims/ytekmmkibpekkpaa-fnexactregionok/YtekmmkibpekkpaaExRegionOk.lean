/-
  For every region the law FnExactRegionOk answers true: RegionOk of the program answers as the model's does; the argument reads as it did. No condition.
-/
import Derived.Test.YtekmmkibpekkpaaReg2
import Derived.Test.YtekmmkibpekkpaaReg3
import Derived.Test.YtekmmkibpekkpaaOpenReg
import Derived.OpenShut
import Derived.ShutString
import Derived.ChangeOld
import Derived.Lib.SmallJoins
namespace Go.Proofs.Ytekmmkibpekkpaa.exRegionOk
open Go.ChangeShapes Go.WideShapes Go.ChangeAt Go.RowKit
set_option linter.unusedVariables false
set_option linter.unusedSimpArgs false

set_option maxHeartbeats 8000000 in
set_option maxRecDepth 100000 in
theorem walk (id a b c : Int) (av : Option Addr) (n cn : Nat) (us : List M1.Upd) (w : World) (h1 : IsUpds w av n cn us) :
    Calls Try.prog 7 #[.agg #[.int .i64 id, .int .i64 a, .int .i64 b, .int .i64 c, .slice av n cn]] w fun e w' => e = .returned (.bool true) ∧ Below w.heap.size w w' := by
  have hm1 := h1.hcap
  have hm2 := h1.hmost
  go_enter Try.func7, Try.ntmps7
  go_wp2_with fail
  obtain ⟨W0, hW0⟩ : ∃ W0, W0 = (w.alloc (.cells #[.int .i64 id, .int .i64 a, .int .i64 b, .int .i64 c, .slice av n cn] 61)) := ⟨_, rfl⟩
  have hBw : Below w.heap.size w W0 := by subst hW0; repeat (first | (with_reducible exact Below.refl _ _) | ((with_reducible refine Below.setCell ?_ ?_ _); rotate_left; (focus (first | omega | (simp; done) | (simp; omega)))) | ((with_reducible refine Below.alloc ?_ ?_ _); rotate_left; (focus (first | omega | (simp; done) | (simp; omega)))) | (with_reducible refine Below.drew ?_))
  have hz0 : W0.heap.size = w.heap.size + 1 := by subst hW0; simp
  have hr0 : RowAt W0 w.heap.size 5 (fun o => #[Value.int .i64 id, .int .i64 a, .int .i64 b, .int .i64 c, .slice av n cn].getD o undef) := by subst hW0; exact RowAt.new w _ _
  have c0 := hr0.cell (o := 0) (by omega)
  have c1 := hr0.cell (o := 1) (by omega)
  have c2 := hr0.cell (o := 2) (by omega)
  have c3 := hr0.cell (o := 3) (by omega)
  have c4 := hr0.cell (o := 4) (by omega)
  simp at c0 c1 c2 c3 c4
  rw [← hW0]
  have h10 := h1.below hBw
  clear hr0 hW0
  have hz0a : w.heap.size < W0.heap.size := by omega
  refine (szRegion_any _ _ _ _ _ _ _ _ _ _ h10 (by omega) (by omega)).mono ?_
  rintro e w0 ⟨⟨r, hn, hr0, hr1, rfl⟩ | rfl, hb0⟩
  · have hn' : n ≤ 1048576 := by omega
    have hr2 : ¬ r < 0 := by omega
    obtain ⟨hc0, hf0⟩ := bcell hb0
    have hs0 := hb0.size
    go_wp2_with fail
    refine (toRegion_any _ _ _ _ _ _ _ _ _ (h10.below hb0) hn').mono ?_
    rintro e w1 ⟨g1, rfl, hg1, r1, hb1⟩
    have hB1 := hb0.trans (hb1.mono hb0.size)
    have v1 := isUpds_of_row h1.hlen (Nat.le_refl _) (by unfold maxLen; omega) h1.htxt r1
    clear hc0 hf0
    obtain ⟨hc1, hf1⟩ := bcell hB1
    have hs1 := hB1.size
    go_wp2_with fail
    refine (regionOk_spec _ _ _ _ _ _ _ _ _ v1).mono ?_
    rintro e w2 ⟨rfl, hb2⟩
    have hB2 := hB1.trans (hb2.mono hB1.size)
    clear v1 r1 hc1 hf1
    obtain ⟨hc2, hf2⟩ := bcell hB2
    have hs2 := hB2.size
    go_wp2_with fail
    refine (toRegion_any _ _ _ _ _ _ _ _ _ (h10.below hB2) hn').mono ?_
    rintro e w3 ⟨g3, rfl, hg3, r3, hb3⟩
    have hB3 := hB2.trans (hb3.mono hB2.size)
    have hg3' : W0.heap.size ≤ g3 := by omega
    have hg3l := r3.lt
    have hs3 := hB3.size
    clear hc2 hf2
    obtain ⟨hc3, hf3⟩ := bcell hB3
    have hs3a : w.heap.size < w3.heap.size := by omega
    go_wp2_with fail
    obtain ⟨W4, hW4⟩ : ∃ W4, W4 = (w3.alloc (.cells #[.int .i64 id, .int .i64 a, .int .i64 b, .int .i64 c, .slice (some ⟨g3, 0, none⟩) n n] 48)) := ⟨_, rfl⟩
    have hB4 : Below W0.heap.size W0 W4 := by subst hW4; exact hB3.alloc (by omega) _
    have r4 : RowAt W4 g3 (n * 13) (ucell us) := by subst hW4; exact r3.alloc _
    have hz4 : W4.heap.size = w3.heap.size + 1 := by subst hW4; simp
    have hr4 : RowAt W4 w3.heap.size 5 (fun o => #[Value.int .i64 id, .int .i64 a, .int .i64 b, .int .i64 c, .slice (some ⟨g3, 0, none⟩) n n].getD o undef) := by subst hW4; exact RowAt.new w3 _ _
    have d0 := hr4.cell (o := 0) (by omega)
    have d1 := hr4.cell (o := 1) (by omega)
    have d2 := hr4.cell (o := 2) (by omega)
    have d3 := hr4.cell (o := 3) (by omega)
    have d4 := hr4.cell (o := 4) (by omega)
    simp at d0 d1 d2 d3 d4
    rw [← hW4]
    clear hW4 hr4 hc3 hf3 r3
    have v4 := isUpds_of_row h1.hlen (Nat.le_refl _) (by unfold maxLen; omega) h1.htxt r4
    refine (regionOk_impl _ _ _ _ _ _ _ _ _ v4).mono ?_
    rintro e w5 ⟨rfl, hb5⟩
    have hB5 := hB4.trans (hb5.mono hB4.size)
    have v5 := v4.below hb5
    obtain ⟨hc5, hf5⟩ := bcell hB5
    obtain ⟨gc5, gf5⟩ := bcell hb5
    have hs5 := hb5.size
    have hs5a : w3.heap.size < W4.heap.size := by omega
    have hs5b : w3.heap.size < w5.heap.size := by omega
    have hs5c : w.heap.size < w5.heap.size := by omega
    clear v4 r4
    go_wp2_with fail
    refine wp_region_held_drew (S := fun w' => Kp w5 w') (by kernel_rfl) ?_ (fun hHeld => ?_)
    · exact kp_zero _
    refine wpAnyH_take (i := 0) (v := ?_) rfl (by kernel_rfl) (by kernel_rfl) (by kernel_rfl) (fun _ _ _ h => h) (Or.inl ⟨by rfl, ?_⟩) hHeld ?_
    rotate_left
    · (intro w hSw; (try dsimp only at hSw); go_simp; try (with_reducible rfl))
    (try simp only [Act.put, List.getElem_toArray, List.getElem_cons_zero, List.getElem_cons_succ, List.setIfInBounds_toArray, List.set_cons_zero, List.set_cons_succ])
    refine wpAnyH_take (i := 1) (v := ?_) rfl (by kernel_rfl) (by kernel_rfl) (by kernel_rfl) (fun _ _ _ h => h) (Or.inl ⟨by rfl, ?_⟩) hHeld ?_
    rotate_left
    · (intro w hSw; (try dsimp only at hSw); go_simp; try (with_reducible rfl))
    (try simp only [Act.put, List.getElem_toArray, List.getElem_cons_zero, List.getElem_cons_succ, List.setIfInBounds_toArray, List.set_cons_zero, List.set_cons_succ])
    refine wpAnyH_ready (rs := [2]) (by kernel_rfl) (by simp) ?_
    refine AllReadyH.cons (o := _) rfl (fun K hK => ?_) AllReadyH.nil
    go_simp
    (refine (toRegion_any _ _ _ _ _ _ _ _ _ (h10.below (hB5.trans (hHeld.1.mono hB5.size))) hn').mono ?_; rintro e w6 ⟨g6, rfl, hg6, r6, hb6⟩; go_wp2_with fail)
    refine hK.out _ _ ?_ (fun hHeld2 => ?_)
    · exact kp_step hHeld hb6
    clear hK K hHeld
    have hHeld := hHeld2
    clear hHeld2
    (try simp only [Act.put, List.getElem_toArray, List.getElem_cons_zero, List.getElem_cons_succ, List.setIfInBounds_toArray, List.set_cons_zero, List.set_cons_succ])
    have v6 := isUpds_of_row h1.hlen (Nat.le_refl _) (by unfold maxLen; omega) h1.htxt r6
    refine wpAnyH_ready (rs := [3]) (by kernel_rfl) (by simp) ?_
    refine AllReadyH.cons (o := _) rfl (fun K hK => ?_) AllReadyH.nil
    go_simp
    (refine (eqRegion_self _ _ _ _ _ _ _ _ _ _ _ (v5.below hHeld.1) v6).mono ?_; rintro e w7 ⟨rfl, hb7⟩; go_wp2_with fail)
    refine hK.out _ _ ?_ (fun hHeld2 => ?_)
    · exact kp_step hHeld hb7
    clear hK K hHeld
    have hHeld := hHeld2
    clear hHeld2
    (try simp only [Act.put, List.getElem_toArray, List.getElem_cons_zero, List.getElem_cons_succ, List.setIfInBounds_toArray, List.set_cons_zero, List.set_cons_succ])
    refine wpAnyH_take (i := 4) (v := ?_) rfl (by kernel_rfl) (by kernel_rfl) (by kernel_rfl) (fun _ _ _ h => h) (Or.inl ⟨by rfl, ?_⟩) hHeld ?_
    rotate_left
    · (intro w hSw; (try dsimp only at hSw); go_simp; try (with_reducible rfl))
    (try simp only [Act.put, List.getElem_toArray, List.getElem_cons_zero, List.getElem_cons_succ, List.setIfInBounds_toArray, List.set_cons_zero, List.set_cons_succ])
    refine wpAnyH_done (by kernel_rfl) ?_ _
    have hB7 := hB5.trans (hHeld.1.mono hB5.size)
    go_wp2_with fail
    go_ret
    exact ⟨rfl, hBw.trans (hB7.mono (by omega))⟩
  · go_wp2_with fail
    go_ret
    exact ⟨rfl, hBw.trans (hb0.mono (by omega))⟩

theorem own : ownKnob Try.prog.godebug = none := by kernel_rfl
theorem laidOut : laidOutB Try.prog = true := by kernel_rfl
set_option maxRecDepth 100000 in
theorem lifted (os : Os) (started : os.Started) (H : Type) (enc : TypeId × Value → H) :
    ReturnsInHanded {} Try.checked os 7 .any (Rows.fnExactRegionOkSpec.pre6 enc Try.prog Try.f7 Rows.fnExactRegionOkRow.domain false) (Rows.fnExactRegionOkSpec.post enc Try.prog Try.f7 false true false false) := by
  refine returnsInHanded_of_change (C := Try.checked) own started (by kernel_rfl) Try.func7
    (ChangeSpec.witness6 (enc := enc) (C := Try.checked) false ⟨#[], #[.agg #[.int .i64 0, .int .i64 0, .int .i64 0, .int .i64 0, .slice none 0 0]], []⟩ 8 (by kernel_rfl) (by kernel_rfl) (by kernel_rfl) (by kernel_rfl)) ?_
  intro W base args ds gs before hval0 hW hcnd _
  have hval : ∀ (j : Nat) t v, Try.f7.params[j]? = some t → args[j]? = some v → Value.okWide Try.prog W .any base t v := hval0
  have hW' := hW
  obtain ⟨p, q, hA0, hV, rfl, hfz, hnd⟩ := hW
  have hA : DataW.TrodAll enc Try.prog W 0 (fun _ => true) true Try.f7.params.toList args.toList ds p := hA0
  rw [Try.params7] at hA hval
  obtain ⟨v0, vs0, d0, ds0, p0, q0, hargs, rfl, rfl, h0, r0⟩ := trodAll_cons hA
  obtain ⟨rfl, rfl, rfl⟩ := trodAll_nil r0
  obtain rfl : args = #[v0] := by cases args; simp_all
  obtain ⟨rfl, rfl⟩ := trodVars_none hV
  have k0 := h0
  have lt0 : ∀ x ∈ p0, x.block < W.heap.size := by obtain ⟨m, hm⟩ := k0; exact DataW.trod_lt m _ _ _ hm
  obtain ⟨i0, x0, y0, z0, a0, l0, c0, us0, rfl, vec0⟩ := open_region (hval 0 61 v0 rfl rfl) h0
  clear hA0 hval0
  refine (walk i0 x0 y0 z0 a0 l0 c0 us0 W vec0).mono fun e W' ⟨he, bel⟩ => ?_
  subst he
  exact ⟨_, rfl, _, _, _, [], _, [], hW', trodAll_mk1 (shut_bool Try.underlying4 _), (trodAll_cons_mk (Below.trod laidOut (by kernel_rfl) (of_decide_eq_true (by kernel_rfl)) k0 bel lt0) trodAll_mk0), rfl, bel.frame _, fun h => by cases h⟩

theorem over : Rows.fnExactRegionOkRow.holds Try.pinned (OpenSpec.ofChange Rows.fnExactRegionOkSpec) :=
  OpenClaim.holds_of_wide 7 Try.f7 rfl rfl rfl rfl rfl rfl rfl ⟨rfl, rfl, rfl, rfl, rfl⟩ rfl rfl rfl rfl rfl (by kernel_rfl) Try.func7 (by kernel_rfl)
    (of_decide_eq_true (by kernel_rfl)) (by unfold Func.isWrapper; first | (rw [if_pos (by decide +kernel)]; kernel_rfl) | (rw [if_neg (by decide +kernel)]; exact ⟨rfl, rfl⟩))
    (fun os started H enc _ => lifted os started H enc)

theorem proved : Rows.FnExactRegionOkSaid := over
end Go.Proofs.Ytekmmkibpekkpaa.exRegionOk
namespace Go.Proofs.Ytekmmkibpekkpaa
theorem fnExactRegionOk_holds : Rows.FnExactRegionOkSaid := exRegionOk.proved
end Go.Proofs.Ytekmmkibpekkpaa
