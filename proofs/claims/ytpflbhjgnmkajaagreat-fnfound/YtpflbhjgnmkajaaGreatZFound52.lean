/-
  For every slice of bytes the law FnFound answers true: what is found in a drawn set is visible and has a span of that service at that time, and all that has is found; the argument reads as it did. No condition.
-/
import Derived.Test.YtpflbhjgnmkajaaGreatZFound28
import Derived.Test.YtpflbhjgnmkajaaGreatZFound49
import Derived.Test.YtpflbhjgnmkajaaGreatZFound50
import Derived.Test.YtpflbhjgnmkajaaGreatZFound51
import Derived.ShutString
import Derived.ChangeOld
import Derived.Lib.SmallJoins
namespace M1
theorem fnd_split (us : List Upd) (sv : ByteArray) (fr tt : Int) (i : Nat) (hi : i < (trs us).length) (hh : hitB us sv fr tt ((trs us).getD i 0) = true) :
    (fndTo us sv fr tt i).length < ((trs us).filter (hitB us sv fr tt)).length ∧ ((trs us).filter (hitB us sv fr tt)).getD (fndTo us sv fr tt i).length 0 = (trs us).getD i 0 := by
  have e1 : (trs us).filter (hitB us sv fr tt) = fndTo us sv fr tt (i + 1) ++ ((trs us).drop (i + 1)).filter (hitB us sv fr tt) := by
    unfold fndTo
    rw [← List.filter_append, List.take_append_drop]
  have e2 := fndTo_step (us := us) (sv := sv) (fr := fr) (tt := tt) hi
  rw [if_pos hh] at e2
  rw [e1, e2]
  constructor
  · first | (simp; done) | (simp; omega)
  · rw [List.getD_eq_getElem?_getD, List.append_assoc, List.getElem?_append_right (Nat.le_refl _)]
    simp
end M1
namespace Go.Proofs.YtpflbhjgnmkajaaGreat.fnFound
open Go.ChangeShapes Go.WideShapes Go.ChangeAt Go.RowKit
set_option linter.unusedVariables false
set_option linter.unusedSimpArgs false

set_option maxHeartbeats 2000000 in
theorem sameI_self (av bv : Option Addr) (n c d lo hi lo2 hi2 : Nat) (zs : List Int) (w : World) (h1 : MI w av n c lo hi (icell zs)) (h2 : MI w bv n d lo2 hi2 (icell zs)) :
    Calls Tryz.prog 8 #[.slice av n c, .slice bv n d] w fun e w' => e = .returned (.bool true) ∧ Below w.heap.size w w' := by
  have hm1 := h1.1
  have hm2 := h1.2.1
  have hm3 := h2.1
  have hm4 := h2.2.1
  unfold maxLen at hm2 hm4
  have hnb : ((n : Int) != (n : Int)) = false := by simp
  go_enter Tryz.func8, Tryz.ntmps8
  go_wp2_with fail
  go_loopw [5] (fun i wr => ∃ p : Nat, p ≤ n ∧ i = .int .i64 p ∧ Below w.heap.size w wr) (fun i _ => n - (intOf i).toNat)
  case atStart => exact ⟨0, Nat.zero_le _, rfl, Below.refl _ _⟩
  case round =>
    obtain ⟨p, hp, rfl, hB⟩ := hrel
    by_cases hlt : p < n
    · have g1 := h1.below hB
      have g2 := h2.below hB
      rcases g1.2.2 with ⟨h0, _⟩ | ⟨g, rfl, _, _, r1⟩
      · omega
      rcases g2.2.2 with ⟨h0, _⟩ | ⟨gg, rfl, _, _, r2⟩
      · omega
      have hgl := r1.lt
      have hgl2 := r2.lt
      have i0 : (0 : Int) ≤ (p : Int) := by omega
      have i1 : (p : Int) < (n : Int) := by omega
      have d0 := r1.cell (o := p) hlt
      have c0 := r2.cell (o := p) hlt
      unfold icell at d0 c0
      clear g1 g2
      go_wp2_with fail
      go_region_held3 (fun w' => Kp wr w') (first | exact kp_zero _ | exact kp_drew (by assumption) | exact kp_step (by assumption) (by assumption)) (fail)
      rename_i hK
      have hB' := hB.trans (hK.1.mono hB.size)
      go_wp2_with fail
      exact ⟨⟨p + 1, by omega, by go_num, hB'⟩, by simp [intOf]; omega⟩
    · go_wp2_with fail
      go_ret
      exact ⟨rfl, hB⟩


set_option maxHeartbeats 40000000 in
set_option maxRecDepth 100000 in
theorem walk (av : Option Addr) (len cap : Nat) (w : World) (h : IsBytes w av len cap) :
    Calls Tryz.prog 3 #[.slice av len cap] w fun e w' => e = .returned (.bool true) ∧ Below w.heap.size w w' := by
  by_cases hl : (1048576 : Int) < (len : Int)
  · go_enter Tryz.func3, Tryz.ntmps3
    go_wp2_with fail
    refine (big_any _ _ _ _ h.hc h.hm).mono ?_
    rw [decide_eq_true hl]
    rintro e w0 ⟨rfl, rfl⟩
    go_wp2_with fail
    go_ret
    exact ⟨rfl, Below.refl _ _⟩
  · go_enter Tryz.func3, Tryz.ntmps3
    go_wp2_with fail
    refine (big_any _ _ _ _ h.hc h.hm).mono ?_
    rw [decide_eq_false (by omega : ¬ (1048576 : Int) < (len : Int))]
    rintro e w0 ⟨rfl, rfl⟩
    go_wp2_with fail
    refine (drawFound_any _ _ _ _ h).mono ?_
    rintro e w1 ⟨bv, c, us, sv, fr, tt, rfl, hn, hsh, u1, hfr, htt, B1⟩
    obtain ⟨n, hne⟩ : ∃ n, Hid (us.length = n) := ⟨_, rfl⟩
    rw [hne.out] at u1 hn ⊢
    obtain ⟨F, hF⟩ : ∃ F, Hid (M1.fnd us sv fr tt = F) := ⟨_, rfl⟩
    obtain ⟨q, hq⟩ : ∃ q, Hid (F.length = q) := ⟨_, rfl⟩
    obtain ⟨m, hm⟩ : ∃ m, Hid ((M1.trs us).length = m) := ⟨_, rfl⟩
    have hm60 : m ≤ 60 := by have := M1.trs_len60 us; rw [hm.out] at this; exact this
    obtain ⟨ok, hok⟩ : ∃ b, Hid (M1.setOk us = b) := ⟨_, rfl⟩
    go_wp2_with fail
    have c2 := found_impl _ _ _ _ sv fr tt _ u1
    rw [hF.out] at c2
    refine c2.mono ?_
    clear c2
    rintro e w2 ⟨⟨aF, cF, rfl, F2⟩, hb2⟩
    rw [hq.out] at F2 ⊢
    have u2 := u1.below hb2
    have B2 := B1.trans (hb2.mono B1.size)
    clear u1 B1 hb2
    go_wp2_with fail
    refine (tracesOf_impl _ _ _ _ _ u2).mono ?_
    rintro e w3 ⟨⟨aT, cT, rfl, T3⟩, hb3⟩
    rw [hm.out] at T3 ⊢
    have u3 := u2.below hb3
    have F3 := F2.below hb3
    have B3 := B2.trans (hb3.mono B2.size)
    clear u2 F2 B2 hb3
    go_wp2_with fail
    have c4 := found_spec _ _ _ _ sv fr tt _ u3
    rw [hF.out] at c4
    refine c4.mono ?_
    clear c4
    rintro e w4 ⟨⟨aX, cX, rfl, X4⟩, hb4⟩
    rw [hq.out] at X4 ⊢
    have u4 := u3.below hb4
    have F4 := F3.below hb4
    have T4 := T3.below hb4
    have B4 := B3.trans (hb4.mono B3.size)
    clear u3 F3 T3 B3 hb4
    go_wp2_with fail
    refine (sameI_self _ _ _ _ _ _ _ _ _ _ _ F4 X4).mono ?_
    rintro e w5 ⟨rfl, hb5⟩
    have u5 := u4.below hb5
    have F5 := F4.below hb5
    have T5 := T4.below hb5
    have B5 := B4.trans (hb5.mono B4.size)
    clear u4 F4 T4 B4 hb5 X4
    go_wp2_with fail
    refine (tracesOf_spec _ _ _ _ _ u5).mono ?_
    rintro e w6 ⟨⟨aY, cY, rfl, Y6⟩, hb6⟩
    rw [hm.out] at Y6 ⊢
    have u6 := u5.below hb6
    have F6 := F5.below hb6
    have T6 := T5.below hb6
    have B6 := B5.trans (hb6.mono B5.size)
    clear u5 F5 T5 B5 hb6
    go_wp2_with fail
    refine (sameI_self _ _ _ _ _ _ _ _ _ _ _ T6 Y6).mono ?_
    rintro e w7 ⟨rfl, hb7⟩
    have u7 := u6.below hb7
    have F7 := F6.below hb7
    have T7 := T6.below hb7
    have B7 := B6.trans (hb7.mono B6.size)
    clear u6 F6 T6 B6 hb7 Y6
    go_wp2_with fail
    have c8 := setOk_spec _ _ _ _ _ u7
    rw [hok.out] at c8
    refine c8.mono ?_
    clear c8
    rintro e w8 ⟨rfl, hb8⟩
    have u8' := u7.below hb8
    have F8 := F7.below hb8
    have T8 := T7.below hb8
    have B8 := B7.trans (hb8.mono B7.size)
    clear u7 F7 T7 B7 hb8
    by_cases hgo : ok = true ∧ fr ≤ tt
    · obtain ⟨hok1, hft⟩ := hgo
      subst hok1
      have HW : Hid (F = (M1.trs us).filter (M1.hitB us sv fr tt)) := (by
        rw [← hF.out]
        unfold M1.fnd
        rw [if_pos]
        unfold M1.winB M1.inB
        simp; omega : _ = _)
      have HSP : Hid (∀ t, M1.sps us t = M1.spTo us t n) := fun t => by unfold M1.sps; rw [if_pos hok.out, hne.out]
      have hF1 := F8.1
      have hF2 := F8.2.1
      have hT1 := T8.1
      have hT2 := T8.2.1
      unfold maxLen at hF2 hT2
      have hqm : q ≤ m := by rw [← hq.out, HW.out, ← hm.out]; exact List.length_filter_le _ _
      go_wp2_with fail
      go_loopw [9, 10] (fun kv iv wr => ∃ (i k : Nat), i ≤ m ∧ iv = .int .i64 i ∧ kv = .int .i64 k ∧ k ≤ i ∧ Hid ((M1.fndTo us sv fr tt i).length = k) ∧ Below w8.heap.size w8 wr) (fun _ iv _ => m - (intOf iv).toNat)
      case atStart => exact ⟨0, 0, Nat.zero_le _, rfl, rfl, Nat.le_refl _, (rfl : (M1.fndTo us sv fr tt 0).length = 0), Below.refl _ _⟩
      case round =>
        obtain ⟨i, k, hi, rfl, rfl, hki, hk, hB⟩ := hrel
        have hsB := hB.size
        by_cases hlt : i < m
        · have T9 := T8.below hB
          rcases T9.2.2 with ⟨h0, _⟩ | ⟨gT, rfl, _, _, rT⟩
          · omega
          have lT := rT.lt
          have i0 : (0 : Int) ≤ (i : Int) := by omega
          have i1 : (i : Int) < (m : Int) := by omega
          obtain ⟨t, ht⟩ : ∃ t, Hid ((M1.trs us).getD i 0 = t) := ⟨_, rfl⟩
          have d0 := rowI_at rT hlt
          rw [ht.out] at d0
          have HST : Hid (M1.fndTo us sv fr tt (i + 1) = if M1.hitB us sv fr tt t = true then M1.fndTo us sv fr tt i ++ [t] else M1.fndTo us sv fr tt i) := (by rw [← ht.out]; exact M1.fndTo_step (by rw [hm.out]; exact hlt) : _ = _)
          obtain ⟨S, hS⟩ : ∃ S, Hid (M1.sps us t = S) := ⟨_, rfl⟩
          obtain ⟨p, hp⟩ : ∃ p, Hid (S.length = p) := ⟨_, rfl⟩
          have hpn : p ≤ n := by have := M1.sps_len us t; rw [hS.out, hp.out, hne.out] at this; exact this
          go_wp2_with fail
          have c9 := spansOf_impl _ _ _ _ t _ (u8'.below hB)
          rw [hS.out] at c9
          refine c9.mono ?_
          clear c9
          rintro e w9 ⟨⟨aS, cS, rfl, S9⟩, hb9⟩
          rw [hp.out] at S9 ⊢
          have hB9 := hB.trans (hb9.mono hB.size)
          have hc1 := S9.1
          have hc2 := S9.2.1
          unfold maxLen at hc2
          have hs9 := hb9.size
          clear d0 rT lT T9
          obtain ⟨wo, hwo⟩ : ∃ W, W = w9 := ⟨_, rfl⟩
          subst hwo
          go_wp2_with fail
          go_loopw [11, 13] (fun hv jv wr => ∃ (j : Nat) (b : Bool), j ≤ p ∧ jv = .int .i64 j ∧ hv = .bool b ∧ Hid ((S.take j).any (M1.askB sv fr tt) = b) ∧ Below wo.heap.size wo wr) (fun _ jv _ => p - (intOf jv).toNat)
          case atStart => exact ⟨0, false, Nat.zero_le _, rfl, rfl, (by simp : (S.take 0).any (M1.askB sv fr tt) = false), Below.refl _ _⟩
          case round =>
            obtain ⟨j, b, hj, rfl, rfl, hb, hBj⟩ := hrel
            have hsj := hBj.size
            by_cases hjlt : j < p
            · have S10 := S9.below hBj
              rcases S10.2.2 with ⟨h0, _⟩ | ⟨gs, rfl, _, _, rS⟩
              · omega
              have hgs := rS.lt
              have j0 : (0 : Int) ≤ (j : Int) := by omega
              have j1 : (j : Int) < (p : Int) := by omega
              have z2 : scell S (j * 5 + 2) = .string (M1.up S j).s := scell_at S j 2 (by omega)
              have z3 : scell S (j * 5 + 3) = .int .i64 (M1.up S j).st := scell_at S j 3 (by omega)
              have z4 : scell S (j * 5 + 4) = .int .i64 (M1.up S j).en := scell_at S j 4 (by omega)
              have d2 := rS.cell (o := j * 5 + 2) (by omega)
              have d3 := rS.cell (o := j * 5 + 3) (by omega)
              have d4 := rS.cell (o := j * 5 + 4) (by omega)
              rw [z2] at d2
              rw [z3] at d3
              rw [z4] at d4
              clear z2 z3 z4 S10
              have HAT : Hid ((S.take (j + 1)).any (M1.askB sv fr tt) = (b || M1.askB sv fr tt (M1.up S j))) := (by rw [M1.any_take (by rw [hp.out]; exact hjlt), hb.out] : _ = _)
              obtain ⟨u, hu⟩ : ∃ u, Hid (M1.up S j = u) := ⟨_, rfl⟩
              rw [hu.out] at d2 d3 d4 HAT
              cases b with
              | true =>
                have HA2 : Hid ((S.take (j + 1)).any (M1.askB sv fr tt) = true) := (by rw [HAT.out]; rfl : _ = _)
                go_wp2_with fail
                exact ⟨⟨j + 1, true, by omega, by go_num, rfl, HA2, hBj⟩, by simp [intOf]; omega⟩
              | false =>
                by_cases ha : M1.askB sv fr tt u = true
                · have hx : u.s.toList = sv.toList ∧ u.st ≤ tt ∧ fr ≤ u.en := by
                    unfold M1.askB at ha; simp at ha; exact ⟨ha.1.1, ha.1.2, ha.2⟩
                  obtain ⟨x1, x2, x3⟩ := hx
                  have HA2 : Hid ((S.take (j + 1)).any (M1.askB sv fr tt) = true) := (by rw [HAT.out, ha]; rfl : _ = _)
                  clear ha
                  go_wp2_with fail
                  exact ⟨⟨j + 1, true, by omega, by go_num, rfl, HA2, hBj⟩, by simp [intOf]; omega⟩
                · have ha' : M1.askB sv fr tt u = false := by simpa using ha
                  have HA2 : Hid ((S.take (j + 1)).any (M1.askB sv fr tt) = false) := (by rw [HAT.out, ha']; rfl : _ = _)
                  by_cases x1 : u.s.toList = sv.toList
                  · by_cases x2 : u.st ≤ tt
                    · have x3 : ¬ fr ≤ u.en := fun x3 => by
                        unfold M1.askB at ha; simp [x1, x2, x3] at ha
                      clear ha ha'
                      go_wp2_with fail
                      exact ⟨⟨j + 1, false, by omega, by go_num, rfl, HA2, hBj⟩, by simp [intOf]; omega⟩
                    · clear ha ha'
                      go_wp2_with fail
                      exact ⟨⟨j + 1, false, by omega, by go_num, rfl, HA2, hBj⟩, by simp [intOf]; omega⟩
                  · clear ha ha'
                    go_wp2_with fail
                    exact ⟨⟨j + 1, false, by omega, by go_num, rfl, HA2, hBj⟩, by simp [intOf]; omega⟩
            · have hjp : j = p := by omega
              have HAN : Hid (S.any (M1.askB sv fr tt) = b) := (by rw [← hb.out, hjp, ← hp.out, List.take_length] : _ = _)
              have hB10 := hB9.trans (hBj.mono hB9.size)
              clear hjp hb
              cases b with
              | false =>
                have HE : Hid ((M1.fndTo us sv fr tt (i + 1)).length = k) := (by rw [HST.out, if_neg (by unfold M1.hitB; rw [hS.out, HAN.out]; simp)]; exact hk.out : _ = _)
                go_wp2_with fail
                exact ⟨⟨i + 1, k, by omega, by go_num, rfl, by omega, HE, hB10⟩, by simp [intOf]; omega⟩
              | true =>
                have T10 := T8.below hB10
                rcases T10.2.2 with ⟨h0, _⟩ | ⟨gT2, eT, _, _, rT⟩
                · omega
                injection eT with eT
                injection eT with eT
                subst eT
                have lT := rT.lt
                have d0 := rowI_at rT hlt
                rw [ht.out] at d0
                obtain ⟨vb, hvb⟩ : ∃ b, Hid (M1.visB us t = b) := ⟨_, rfl⟩
                go_wp2_with fail
                have c11 := visible_impl _ _ _ _ t _ (u8'.below hB10)
                rw [hvb.out] at c11
                refine c11.mono ?_
                clear c11
                rintro e w11 ⟨rfl, hb11⟩
                have hB11 := hB10.trans (hb11.mono hB10.size)
                clear d0 lT T10
                cases vb with
                | false =>
                  have HE : Hid ((M1.fndTo us sv fr tt (i + 1)).length = k) := (by rw [HST.out, if_neg (by unfold M1.hitB; rw [hvb.out]; simp)]; exact hk.out : _ = _)
                  go_wp2_with fail
                  exact ⟨⟨i + 1, k, by omega, by go_num, rfl, by omega, HE, hB11⟩, by simp [intOf]; omega⟩
                | true =>
                  have HHI : Hid (M1.hitB us sv fr tt t = true) := (by unfold M1.hitB; rw [hvb.out, hS.out, HAN.out]; rfl : _ = _)
                  have HE : Hid ((M1.fndTo us sv fr tt (i + 1)).length = k + 1) := (by rw [HST.out, if_pos HHI.out]; simp [hk.out] : _ = _)
                  have hsp := M1.fnd_split us sv fr tt i (by rw [hm.out]; exact hlt) (by rw [ht.out]; exact HHI.out)
                  rw [← HW.out, hk.out, hq.out, ht.out] at hsp
                  obtain ⟨hkq, hFk⟩ := hsp
                  have F11 := F8.below hB11
                  rcases F11.2.2 with ⟨h0, _⟩ | ⟨gF, rfl, _, _, rF⟩
                  · omega
                  have lF := rF.lt
                  have d1 := rowI_at rF hkq
                  rw [hFk] at d1
                  have rT2 := rT.below hb11
                  have lT := rT2.lt
                  have d0 := rowI_at rT2 hlt
                  rw [ht.out] at d0
                  have k0 : (0 : Int) ≤ (k : Int) := by omega
                  have k1 : (k : Int) < (q : Int) := by omega
                  have qk : decide ((q : Int) ≤ (k : Int)) = false := by simp; omega
                  clear hFk F11
                  go_wp2_with fail
                  refine wp_region_held_drew (S := fun w' => Kp w11 w') (by kernel_rfl) ?_ (fun hHeld => ?_)
                  · exact kp_zero _
                  refine wpAnyH_take (i := 0) (v := ?_) rfl (by kernel_rfl) (by kernel_rfl) (by kernel_rfl) (fun _ _ _ h => h) (Or.inl ⟨by rfl, ?_⟩) hHeld ?_
                  rotate_left
                  · (intro w hSw; (try dsimp only at hSw); go_simp; try (with_reducible rfl))
                  (try simp only [Act.put, List.getElem_toArray, List.getElem_cons_zero, List.getElem_cons_succ, List.setIfInBounds_toArray, List.set_cons_zero, List.set_cons_succ])
                  refine wpAnyH_take (i := 1) (v := ?_) rfl (by kernel_rfl) (by kernel_rfl) (by kernel_rfl) (fun _ _ _ h => h) (Or.inl ⟨by rfl, ?_⟩) hHeld ?_
                  rotate_left
                  · (intro w hSw; (try dsimp only at hSw); go_simp; try (with_reducible rfl))
                  (try simp only [Act.put, List.getElem_toArray, List.getElem_cons_zero, List.getElem_cons_succ, List.setIfInBounds_toArray, List.set_cons_zero, List.set_cons_succ])
                  refine wpAnyH_take (i := 2) (v := ?_) rfl (by kernel_rfl) (by kernel_rfl) (by kernel_rfl) (fun _ _ _ h => h) (Or.inl ⟨by rfl, ?_⟩) hHeld ?_
                  rotate_left
                  · (intro w hSw; (try dsimp only at hSw); go_simp; try (with_reducible rfl))
                  (try simp only [Act.put, List.getElem_toArray, List.getElem_cons_zero, List.getElem_cons_succ, List.setIfInBounds_toArray, List.set_cons_zero, List.set_cons_succ])
                  refine wpAnyH_take (i := 3) (v := .bool false) rfl (by kernel_rfl) (by kernel_rfl) (by kernel_rfl) (fun _ _ _ h => h) (Or.inl ⟨by rfl, ?_⟩) hHeld ?_
                  · (intro w hSw; (try dsimp only at hSw); go_simp; (try simp [qk]); (try omega))
                  (try simp only [Act.put, List.getElem_toArray, List.getElem_cons_zero, List.getElem_cons_succ, List.setIfInBounds_toArray, List.set_cons_zero, List.set_cons_succ])
                  refine wpAnyH_take (i := 4) (v := ?_) rfl (by kernel_rfl) (by kernel_rfl) (by kernel_rfl) (fun _ _ _ h => h) (Or.inl ⟨by rfl, ?_⟩) hHeld ?_
                  rotate_left
                  · (intro w hSw; (try dsimp only at hSw); go_simp; try (with_reducible rfl))
                  (try simp only [Act.put, List.getElem_toArray, List.getElem_cons_zero, List.getElem_cons_succ, List.setIfInBounds_toArray, List.set_cons_zero, List.set_cons_succ])
                  refine wpAnyH_take (i := 5) (v := ?_) rfl (by kernel_rfl) (by kernel_rfl) (by kernel_rfl) (fun _ _ _ h => h) (Or.inl ⟨by rfl, ?_⟩) hHeld ?_
                  rotate_left
                  · (intro w hSw; (try dsimp only at hSw); go_simp; try (with_reducible rfl))
                  (try simp only [Act.put, List.getElem_toArray, List.getElem_cons_zero, List.getElem_cons_succ, List.setIfInBounds_toArray, List.set_cons_zero, List.set_cons_succ])
                  refine wpAnyH_take (i := 6) (v := ?_) rfl (by kernel_rfl) (by kernel_rfl) (by kernel_rfl) (fun _ _ _ h => h) (Or.inl ⟨by rfl, ?_⟩) hHeld ?_
                  rotate_left
                  · (intro w hSw; (try dsimp only at hSw); go_simp; try (with_reducible rfl))
                  (try simp only [Act.put, List.getElem_toArray, List.getElem_cons_zero, List.getElem_cons_succ, List.setIfInBounds_toArray, List.set_cons_zero, List.set_cons_succ])
                  refine wpAnyH_take (i := 7) (v := ?_) rfl (by kernel_rfl) (by kernel_rfl) (by kernel_rfl) (fun _ _ _ h => h) (Or.inl ⟨by rfl, ?_⟩) hHeld ?_
                  rotate_left
                  · (intro w hSw; (try dsimp only at hSw); go_simp; try (with_reducible rfl))
                  (try simp only [Act.put, List.getElem_toArray, List.getElem_cons_zero, List.getElem_cons_succ, List.setIfInBounds_toArray, List.set_cons_zero, List.set_cons_succ])
                  refine wpAnyH_take (i := 8) (v := ?_) rfl (by kernel_rfl) (by kernel_rfl) (by kernel_rfl) (fun _ _ _ h => h) (Or.inl ⟨by rfl, ?_⟩) hHeld ?_
                  rotate_left
                  · (intro w hSw; (try dsimp only at hSw); go_simp; try (with_reducible rfl))
                  (try simp only [Act.put, List.getElem_toArray, List.getElem_cons_zero, List.getElem_cons_succ, List.setIfInBounds_toArray, List.set_cons_zero, List.set_cons_succ])
                  refine wpAnyH_take (i := 9) (v := ?_) rfl (by kernel_rfl) (by kernel_rfl) (by kernel_rfl) (fun _ _ _ h => h) (Or.inl ⟨by rfl, ?_⟩) hHeld ?_
                  rotate_left
                  · (intro w hSw; (try dsimp only at hSw); go_simp; try (with_reducible rfl))
                  (try simp only [Act.put, List.getElem_toArray, List.getElem_cons_zero, List.getElem_cons_succ, List.setIfInBounds_toArray, List.set_cons_zero, List.set_cons_succ])
                  refine wpAnyH_take (i := 10) (v := ?_) rfl (by kernel_rfl) (by kernel_rfl) (by kernel_rfl) (fun _ _ _ h => h) (Or.inl ⟨by rfl, ?_⟩) hHeld ?_
                  rotate_left
                  · (intro w hSw; (try dsimp only at hSw); go_simp; try (with_reducible rfl))
                  (try simp only [Act.put, List.getElem_toArray, List.getElem_cons_zero, List.getElem_cons_succ, List.setIfInBounds_toArray, List.set_cons_zero, List.set_cons_succ])
                  refine wpAnyH_take (i := 11) (v := ?_) rfl (by kernel_rfl) (by kernel_rfl) (by kernel_rfl) (fun _ _ _ h => h) (Or.inl ⟨by rfl, ?_⟩) hHeld ?_
                  rotate_left
                  · (intro w hSw; (try dsimp only at hSw); go_simp; try (with_reducible rfl))
                  (try simp only [Act.put, List.getElem_toArray, List.getElem_cons_zero, List.getElem_cons_succ, List.setIfInBounds_toArray, List.set_cons_zero, List.set_cons_succ])
                  refine wpAnyH_take (i := 12) (v := ?_) rfl (by kernel_rfl) (by kernel_rfl) (by kernel_rfl) (fun _ _ _ h => h) (Or.inl ⟨by rfl, ?_⟩) hHeld ?_
                  rotate_left
                  · (intro w hSw; (try dsimp only at hSw); go_simp; try (with_reducible rfl))
                  (try simp only [Act.put, List.getElem_toArray, List.getElem_cons_zero, List.getElem_cons_succ, List.setIfInBounds_toArray, List.set_cons_zero, List.set_cons_succ])
                  refine wpAnyH_take (i := 13) (v := .bool false) rfl (by kernel_rfl) (by kernel_rfl) (by kernel_rfl) (fun _ _ _ h => h) (Or.inl ⟨by rfl, ?_⟩) hHeld ?_
                  · (intro w hSw; (try dsimp only at hSw); go_simp; (try simp))
                  (try simp only [Act.put, List.getElem_toArray, List.getElem_cons_zero, List.getElem_cons_succ, List.setIfInBounds_toArray, List.set_cons_zero, List.set_cons_succ])
                  refine wpAnyH_take (i := 14) (v := .bool false) rfl (by kernel_rfl) (by kernel_rfl) (by kernel_rfl) (fun _ _ _ h => h) (Or.inl ⟨by rfl, ?_⟩) hHeld ?_
                  · (intro w hSw; (try dsimp only at hSw); go_simp; skip)
                  (try simp only [Act.put, List.getElem_toArray, List.getElem_cons_zero, List.getElem_cons_succ, List.setIfInBounds_toArray, List.set_cons_zero, List.set_cons_succ])
                  refine wpAnyH_done (by kernel_rfl) ?_ _
                  have hB12 := hB11.trans (hHeld.1.mono hB11.size)
                  clear hHeld
                  go_wp2_with fail
                  exact ⟨⟨i + 1, k + 1, by omega, by go_num, by go_num, by omega, HE, hB12⟩, by simp [intOf]; omega⟩
        · have him : i = m := by omega
          have hkq : k = q := by rw [← hk.out, him, ← hm.out, M1.fndTo_all, ← HW.out, hq.out]
          have qq : ((k : Int) == (q : Int)) = true := by simp [hkq]
          clear him hkq
          go_wp2_with fail
          go_ret
          exact ⟨by simp [qq], B8.trans (hB.mono B8.size)⟩
    · have hcase : ok = false ∨ (ok = true ∧ tt < fr) := by
        cases ok with
        | false => exact Or.inl rfl
        | true => exact Or.inr ⟨rfl, by
            by_cases c : fr ≤ tt
            · exact absurd ⟨rfl, c⟩ hgo
            · omega⟩
      clear hgo
      rcases hcase with rfl | ⟨rfl, hlt⟩
      · go_wp2_with fail
        have c9 := found_spec _ _ _ _ sv fr tt _ u8'
        rw [hF.out] at c9
        refine c9.mono ?_
        clear c9
        rintro e w9 ⟨⟨aX, cX, rfl, X9⟩, hb9⟩
        rw [hq.out] at X9 ⊢
        have F9 := F8.below hb9
        have T9 := T8.below hb9
        have u9' := u8'.below hb9
        have B9 := B8.trans (hb9.mono B8.size)
        go_wp2_with fail
        refine (sameI_self _ _ _ _ _ _ _ _ _ _ _ F9 X9).mono ?_
        rintro e w10 ⟨rfl, hb10⟩
        have T10 := T9.below hb10
        have u10' := u9'.below hb10
        have B10 := B9.trans (hb10.mono B9.size)
        go_wp2_with fail
        refine (tracesOf_spec _ _ _ _ _ u10').mono ?_
        rintro e w11 ⟨⟨aY, cY, rfl, Y11⟩, hb11⟩
        rw [hm.out] at Y11 ⊢
        have T11 := T10.below hb11
        have B11 := B10.trans (hb11.mono B10.size)
        go_wp2_with fail
        refine (sameI_self _ _ _ _ _ _ _ _ _ _ _ T11 Y11).mono ?_
        rintro e w12 ⟨rfl, hb12⟩
        go_wp2_with fail
        go_ret
        exact ⟨rfl, B11.trans (hb12.mono B11.size)⟩
      · go_wp2_with fail
        have c9 := found_spec _ _ _ _ sv fr tt _ u8'
        rw [hF.out] at c9
        refine c9.mono ?_
        clear c9
        rintro e w9 ⟨⟨aX, cX, rfl, X9⟩, hb9⟩
        rw [hq.out] at X9 ⊢
        have F9 := F8.below hb9
        have T9 := T8.below hb9
        have u9' := u8'.below hb9
        have B9 := B8.trans (hb9.mono B8.size)
        go_wp2_with fail
        refine (sameI_self _ _ _ _ _ _ _ _ _ _ _ F9 X9).mono ?_
        rintro e w10 ⟨rfl, hb10⟩
        have T10 := T9.below hb10
        have u10' := u9'.below hb10
        have B10 := B9.trans (hb10.mono B9.size)
        go_wp2_with fail
        refine (tracesOf_spec _ _ _ _ _ u10').mono ?_
        rintro e w11 ⟨⟨aY, cY, rfl, Y11⟩, hb11⟩
        rw [hm.out] at Y11 ⊢
        have T11 := T10.below hb11
        have B11 := B10.trans (hb11.mono B10.size)
        go_wp2_with fail
        refine (sameI_self _ _ _ _ _ _ _ _ _ _ _ T11 Y11).mono ?_
        rintro e w12 ⟨rfl, hb12⟩
        go_wp2_with fail
        go_ret
        exact ⟨rfl, B11.trans (hb12.mono B11.size)⟩

theorem own : ownKnob Tryz.prog.godebug = none := by kernel_rfl
theorem laidOut : laidOutB Tryz.prog = true := by kernel_rfl
set_option maxRecDepth 100000 in
theorem lifted (os : Os) (started : os.Started) (H : Type) (enc : TypeId × Value → H) :
    ReturnsInHanded {} Tryz.checked os 3 .any (Rows.fnFoundSpec.pre6 enc Tryz.prog Tryz.f3 Rows.fnFoundRow.domain false) (Rows.fnFoundSpec.post enc Tryz.prog Tryz.f3 false true false false) := by
  refine returnsInHanded_of_change (C := Tryz.checked) own started (by kernel_rfl) Tryz.func3
    (ChangeSpec.witness6 (enc := enc) (C := Tryz.checked) false ⟨#[], #[.slice none 0 0], []⟩ 8 (by kernel_rfl) (by kernel_rfl) (by kernel_rfl) (by kernel_rfl)) ?_
  intro W base args ds gs before hval0 hW hcnd _
  have hval : ∀ (j : Nat) t v, Tryz.f3.params[j]? = some t → args[j]? = some v → Value.okWide Tryz.prog W .any base t v := hval0
  have hW' := hW
  obtain ⟨p, q, hA0, hV, rfl, hfz, hnd⟩ := hW
  have hA : DataW.TrodAll enc Tryz.prog W 0 (fun _ => true) true Tryz.f3.params.toList args.toList ds p := hA0
  rw [Tryz.params3] at hA hval
  obtain ⟨v0, vs0, d0, ds0, p0, q0, hargs, rfl, rfl, h0, r0⟩ := trodAll_cons hA
  obtain ⟨rfl, rfl, rfl⟩ := trodAll_nil r0
  obtain rfl : args = #[v0] := by cases args; simp_all
  obtain ⟨rfl, rfl⟩ := trodVars_none hV
  have k0 := h0
  have lt0 : ∀ x ∈ p0, x.block < W.heap.size := by obtain ⟨m, hm⟩ := k0; exact DataW.trod_lt m _ _ _ hm
  obtain ⟨a0, l0, c0, rfl⟩ := okWide_slice Tryz.underlying22 (hval 0 22 v0 rfl rfl)
  obtain ⟨fu0, hf0⟩ := h0
  have by0 := open_bytes hf0
  clear hA0 hval0
  refine (walk a0 l0 c0 W by0).mono fun e W' ⟨he, bel⟩ => ?_
  subst he
  exact ⟨_, rfl, _, _, _, [], _, [], hW', trodAll_mk1 (shut_bool Tryz.underlying4 _), (trodAll_cons_mk (Below.trod laidOut (by kernel_rfl) (of_decide_eq_true (by kernel_rfl)) k0 bel lt0) trodAll_mk0), rfl, bel.frame _, fun h => by cases h⟩

theorem over : Rows.fnFoundRow.holds Tryz.pinned (OpenSpec.ofChange Rows.fnFoundSpec) :=
  OpenClaim.holds_of_wide 3 Tryz.f3 rfl rfl rfl rfl rfl rfl rfl ⟨rfl, rfl, rfl, rfl, rfl⟩ rfl rfl rfl rfl rfl (by kernel_rfl) Tryz.func3 (by kernel_rfl)
    (of_decide_eq_true (by kernel_rfl)) (by unfold Func.isWrapper; first | (rw [if_pos (by decide +kernel)]; kernel_rfl) | (rw [if_neg (by decide +kernel)]; exact ⟨rfl, rfl⟩))
    (fun os started H enc _ => lifted os started H enc)

theorem proved : Rows.FnFoundSaid := over
end Go.Proofs.YtpflbhjgnmkajaaGreat.fnFound
namespace Go.Proofs.YtpflbhjgnmkajaaGreat
theorem fnFound_holds : Rows.FnFoundSaid := fnFound.proved
end Go.Proofs.YtpflbhjgnmkajaaGreat
