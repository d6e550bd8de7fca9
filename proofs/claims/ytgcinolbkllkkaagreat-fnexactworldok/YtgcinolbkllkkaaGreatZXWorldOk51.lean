/-
  For every world the law FnExactWorldOk answers true: WorldOk of the program answers as the model's does; the argument reads as it did. No condition.
-/
import Derived.Test.YtgcinolbkllkkaaGreatZXWorldOk39
import Derived.Test.YtgcinolbkllkkaaGreatZXWorldOk45
import Derived.Test.YtgcinolbkllkkaaGreatZXWorldOk47
import Derived.Test.YtgcinolbkllkkaaGreatZXWorldOk50
import Derived.OpenShut
import Derived.ShutString
import Derived.ChangeOld
import Derived.Lib.SmallJoins
namespace Go.Proofs.YtgcinolbkllkkaaGreat.exWorldOk
open Go.ChangeShapes Go.WideShapes Go.ChangeAt Go.RowKit
set_option linter.unusedVariables false
set_option linter.unusedSimpArgs false
theorem rgs_txt {w : World} {v : Option Addr} {n c : Nat} {rs : List M1.Rg} (h : IsRgs w v n c rs) : ∀ i, i < n → ∀ j, j < (M1.rgA rs i).us.length → (M1.up (M1.rgA rs i).us j).s.size ≤ maxLen := fun i hi j hj => by
 rcases h.hlies with h0 | ⟨b, off, _, _, hc⟩
 ·omega
 obtain ⟨v1, m1, n1, _, _, _, _, _, hu⟩ := hc i hi
 exact hu.htxt j (by rw [← hu.hlen]; exact hj)

theorem mls_txt {w : World} {v : Option Addr} {n c : Nat} {ms : List M1.Ml} (h : IsMls w v n c ms) : ∀ i, i < n → ∀ j, j < (M1.mlA ms i).del.length → (M1.up (M1.mlA ms i).del j).s.size ≤ maxLen := fun i hi j hj => by
 rcases h.hlies with h0 | ⟨b, off, _, _, hc⟩
 ·omega
 obtain ⟨v1, m1, n1, v2, m2, n2, _, _, _, _, _, hv, hu⟩ := hc i hi
 exact hu.htxt j (by rw [← hu.hlen]; exact hj)

set_option maxHeartbeats 8000000 in
set_option maxRecDepth 100000 in
theorem walk (now : Int) (v : Option Addr) (n c : Nat) (rs : List M1.Rg) (v2 : Option Addr) (n2 c2 : Nat) (ms : List M1.Ml) (w : World) (hr : IsRgs w v n c rs) (hm : IsMls w v2 n2 c2 ms) :
  Calls Tryz.prog 4 #[.agg #[.int .i64 now, .slice v n c, .slice v2 n2 c2]] w fun e w' => e = .returned (.bool true) ∧ Below w.heap.size w w' := by
 have hA : Below w.heap.size w (w.alloc (.cells #[.int .i64 now, .slice v n c, .slice v2 n2 c2] 47)) := (Below.refl _ _).alloc (Nat.le_refl _) _
 have P := r3_new w (.int .i64 now) (.slice v n c) (.slice v2 n2 c2) 47
 have htx : Hid (∀ i, i < n → ∀ j, j < (M1.rgA rs i).us.length → (M1.up (M1.rgA rs i).us j).s.size ≤ maxLen) := rgs_txt hr
 have htx2 : Hid (∀ i, i < n2 → ∀ j, j < (M1.mlA ms i).del.length → (M1.up (M1.mlA ms i).del j).s.size ≤ maxLen) := mls_txt hm
 go_enter Tryz.func4, Tryz.ntmps4
 go_upto_region 1 with fail
 obtain ⟨W0, hW0⟩ : ∃ W, w.alloc (.cells #[.int .i64 now, .slice v n c, .slice v2 n2 c2] 47) = W := ⟨_, rfl⟩
 rw [hW0] at hA P ⊢
 clear hW0
 obtain ⟨p, hp⟩ : ∃ p, Hid (w.heap.size = p) := ⟨_, rfl⟩
 rw [hp.out] at P ⊢
 obtain ⟨d0, d1, d2⟩ := r3_cells P
 have pl := P.lt
 go_wp2_with fail
 refine (szWorld_any _ _ _ _ _ _ _ _ _ _ _ (hr.below hA) (hm.below hA) (by omega) (by omega)).mono ?_
 rintro e w1 ⟨⟨r, H, hr0, rfl⟩ | rfl, hb1⟩
 case inr =>
  have B1 := hA.trans (hb1.mono hA.size)
  go_wp2_with fail
  go_ret
  exact ⟨rfl, B1⟩
 have B1 := hA.trans (hb1.mono hA.size)
 have P1 := RowAt.below P hb1
 clear d0 d1 d2 pl
 obtain ⟨d0, d1, d2⟩ := r3_cells P1
 have pl := P1.lt
 have hr2 : ¬ r < 0 := by omega
 have hn : n ≤ 1048576 := by have := H.out.1.1; omega
 have hn2 : n2 ≤ 1048576 := by have := H.out.1.2; omega
 have hus : Hid (∀ i, i < n → (M1.rgA rs i).us.length ≤ 1048576) := H.out.2.1
 have hus2 : Hid (∀ i, i < n2 → (M1.mlA ms i).vec.length ≤ 1048576 ∧ (M1.mlA ms i).del.length ≤ 1048576) := H.out.2.2
 obtain ⟨q, hq⟩ : ∃ q, Hid (M1.wOk now rs ms = q) := ⟨_, rfl⟩
 go_wp2_with fail
 refine (toWorld_any now _ _ _ rs _ _ _ ms _ (hr.below B1) (hm.below B1) hn hn2 hus htx hus2 htx2).mono ?_
 rintro e w2 ⟨g1, g2, rfl, hrs2, hms2, hb2⟩
 have B2 := B1.trans (hb2.mono B1.size)
 have P2 := RowAt.below P1 hb2
 clear d0 d1 d2 pl
 obtain ⟨d0, d1, d2⟩ := r3_cells P2
 have pl := P2.lt
 go_wp2_with fail
 refine (worldOk_spec now _ _ _ rs _ _ _ ms _ hrs2 hms2).mono ?_
 rw [hq.out]
 rintro e w3 ⟨rfl, hb3⟩
 have B3 := B2.trans (hb3.mono B2.size)
 have P3 := RowAt.below P2 hb3
 clear d0 d1 d2 pl
 obtain ⟨d0, d1, d2⟩ := r3_cells P3
 have pl := P3.lt
 go_wp2_with fail
 refine (toWorld_any now _ _ _ rs _ _ _ ms _ (hr.below B3) (hm.below B3) hn hn2 hus htx hus2 htx2).mono ?_
 rintro e w4 ⟨g3, g4, rfl, hrs4, hms4, hb4⟩
 have B4 := B3.trans (hb4.mono B3.size)
 have P4 := RowAt.below P3 hb4
 clear d0 d1 d2 pl
 have hA5 : Below w4.heap.size w4 (w4.alloc (.cells #[.int .i64 now, .slice (some ⟨g3, 0, none⟩) n n, .slice (some ⟨g4, 0, none⟩) n2 n2] 27)) := (Below.refl _ _).alloc (Nat.le_refl _) _
 have Q := r3_new w4 (.int .i64 now) (.slice (some ⟨g3, 0, none⟩) n n) (.slice (some ⟨g4, 0, none⟩) n2 n2) 27
 go_upto_region 7 with fail
 obtain ⟨W5, hW5⟩ : ∃ W, w4.alloc (.cells #[.int .i64 now, .slice (some ⟨g3, 0, none⟩) n n, .slice (some ⟨g4, 0, none⟩) n2 n2] 27) = W := ⟨_, rfl⟩
 rw [hW5] at hA5 Q ⊢
 clear hW5
 obtain ⟨y, hy⟩ : ∃ y, Hid (w4.heap.size = y) := ⟨_, rfl⟩
 rw [hy.out] at Q ⊢
 have B5 := B4.trans (hA5.mono B4.size)
 have P5 := RowAt.below P4 hA5
 have hrs5 := hrs4.below hA5
 have hms5 := hms4.below hA5
 obtain ⟨q0, q1, q2⟩ := r3_cells Q
 have ql := Q.lt
 go_wp2_with fail
 refine (worldOk_impl now _ _ _ rs _ _ _ ms _ hrs5 hms5).mono ?_
 rw [hq.out]
 rintro e w6 ⟨rfl, hb6⟩
 have B6 := B5.trans (hb6.mono B5.size)
 have P6 := RowAt.below P5 hb6
 have Q6 := RowAt.below Q hb6
 have hrs6 := hrs5.below hb6
 have hms6 := hms5.below hb6
 clear q0 q1 q2 ql
 obtain ⟨q0, q1, q2⟩ := r3_cells Q6
 have ql := Q6.lt
 obtain ⟨d0, d1, d2⟩ := r3_cells P6
 have pl := P6.lt
 have hqq : (q != q) = false := by simp
 go_wp2_with fail
 refine wp_region_held_drew (S := fun w' => Kp w6 w') (by kernel_rfl) ?_ (fun hHeld => ?_)
 ·exact kp_zero _
 refine tZ (i:=0) (v:=?_) rfl (.inl ⟨by rfl, ?_⟩) hHeld ?_
 rotate_left
 ·(intro w hSw; (try dsimp only at hSw); go_simp; try (with_reducible rfl))
 (try simp only [Act.put, zZ])
 refine tZ (i:=1) (v:=?_) rfl (.inl ⟨by rfl, ?_⟩) hHeld ?_
 rotate_left
 ·(intro w hSw; (try dsimp only at hSw); go_simp; try (with_reducible rfl))
 (try simp only [Act.put, zZ])
 refine wpAnyH_ready (rs := [2]) (by kernel_rfl) (by simp) ?_
 refine AllReadyH.cons (o := _) rfl (fun K hK => ?_) AllReadyH.nil
 go_simp
 (refine (toWorld_any now _ _ _ rs _ _ _ ms _ ((hr.below B6).below hHeld.1) ((hm.below B6).below hHeld.1) hn hn2 hus htx hus2 htx2).mono ?_; rintro e w7 ⟨g5, g6, rfl, hrs7, hms7, hb7⟩; go_wp2_with fail)
 refine hK.out _ _ ?_ (fun hHeld2 => ?_)
 ·exact kp_step hHeld hb7
 clear hK K hHeld
 have hHeld := hHeld2
 clear hHeld2
 (try simp only [Act.put, zZ])
 refine wpAnyH_ready (rs := [3]) (by kernel_rfl) (by simp) ?_
 refine AllReadyH.cons (o := _) rfl (fun K hK => ?_) AllReadyH.nil
 go_simp
 (refine (eqWorld_self now _ _ _ _ _ rs _ _ _ _ _ ms _ (hrs6.below hHeld.1) (hms6.below hHeld.1) hrs7 hms7).mono ?_; rintro e w8 ⟨rfl, hb8⟩; go_wp2_with fail)
 refine hK.out _ _ ?_ (fun hHeld2 => ?_)
 ·exact kp_step hHeld hb8
 clear hK K hHeld
 have hHeld := hHeld2
 clear hHeld2
 (try simp only [Act.put, zZ])
 refine tZ (i:=4) (v:=?_) rfl (.inl ⟨by rfl, ?_⟩) hHeld ?_
 rotate_left
 ·(intro w hSw; (try dsimp only at hSw); go_simp; try (with_reducible rfl))
 (try simp only [Act.put, zZ])
 refine wpAnyH_done (by kernel_rfl) ?_ _
 have B8 := B6.trans (hHeld.1.mono B6.size)
 go_wp2_with fail
 go_ret
 exact ⟨rfl, B8⟩

theorem own : ownKnob Tryz.prog.godebug = none := by kernel_rfl

theorem laidOut : laidOutB Tryz.prog = true := by kernel_rfl

set_option maxRecDepth 100000 in
theorem lifted (os : Os) (started : os.Started) (H : Type) (enc : TypeId × Value → H) :
  ReturnsInHanded {} Tryz.checked os 4 .any (Rows.fnExactWorldOkSpec.pre6 enc Tryz.prog Tryz.f4 Rows.fnExactWorldOkRow.domain false) (Rows.fnExactWorldOkSpec.post enc Tryz.prog Tryz.f4 false true false false) := by
 refine returnsInHanded_of_change (C := Tryz.checked) own started (by kernel_rfl) Tryz.func4
  (ChangeSpec.witness6 (enc := enc) (C := Tryz.checked) false ⟨#[], #[.agg #[.int .i64 0, .slice none 0 0, .slice none 0 0]], []⟩ 8 (by kernel_rfl) (by kernel_rfl) (by kernel_rfl) (by kernel_rfl)) ?_
 intro W base args ds gs before hval0 hW hcnd _
 have hval : ∀ (j : Nat) t v, Tryz.f4.params[j]? = some t → args[j]? = some v → Value.okWide Tryz.prog W .any base t v := hval0
 have hW' := hW
 obtain ⟨p, q, hA0, hV, rfl, hfz, hnd⟩ := hW
 have hA : DataW.TrodAll enc Tryz.prog W 0 (fun _ => true) true Tryz.f4.params.toList args.toList ds p := hA0
 rw [Tryz.params4] at hA hval
 obtain ⟨v0, vs0, d0, ds0, p0, q0, hargs, rfl, rfl, h0, r0⟩ := trodAll_cons hA
 obtain ⟨rfl, rfl, rfl⟩ := trodAll_nil r0
 obtain rfl : args = #[v0] := by cases args; simp_all
 obtain ⟨rfl, rfl⟩ := trodVars_none hV
 have k0 := h0
 have lt0 : ∀ x ∈ p0, x.block < W.heap.size := by obtain ⟨m, hm⟩ := k0; exact DataW.trod_lt m _ _ _ hm
 obtain ⟨nw0, a0, l0, c0, rs0, b0, m0, d0, ms0, rfl, hrs0, hms0⟩ := open_world (hval 0 47 v0 rfl rfl) h0
 clear hA0 hval0
 refine (walk nw0 a0 l0 c0 rs0 b0 m0 d0 ms0 W hrs0 hms0).mono fun e W' ⟨he, bel⟩ => ?_
 subst he
 exact ⟨_, rfl, _, _, _, [], _, [], hW', trodAll_mk1 (shut_bool Tryz.underlying4 _), (trodAll_cons_mk (Below.trod laidOut (by kernel_rfl) (of_decide_eq_true (by kernel_rfl)) k0 bel lt0) trodAll_mk0), rfl, bel.frame _, fun h => by cases h⟩

theorem over : Rows.fnExactWorldOkRow.holds Tryz.pinned (OpenSpec.ofChange Rows.fnExactWorldOkSpec) :=
 OpenClaim.holds_of_wide 4 Tryz.f4 rfl rfl rfl rfl rfl rfl rfl ⟨rfl, rfl, rfl, rfl, rfl⟩ rfl rfl rfl rfl rfl (by kernel_rfl) Tryz.func4 (by kernel_rfl)
  (of_decide_eq_true (by kernel_rfl)) (by unfold Func.isWrapper; first | (rw [if_pos (by decide +kernel)]; kernel_rfl) | (rw [if_neg (by decide +kernel)]; exact ⟨rfl, rfl⟩))
  (fun os started H enc _ => lifted os started H enc)

theorem proved : Rows.FnExactWorldOkSaid := over

end Go.Proofs.YtgcinolbkllkkaaGreat.exWorldOk
namespace Go.Proofs.YtgcinolbkllkkaaGreat
theorem fnExactWorldOk_holds : Rows.FnExactWorldOkSaid := exWorldOk.proved

end Go.Proofs.YtgcinolbkllkkaaGreat
