/-
  For every slice of bytes the law FnLongest answers true: the longest path of a drawn set and trace ends where nothing ends later, begins at a root, and goes from parent to kid; the argument reads as it did. No condition.
-/
import Derived.Test.YtdpeopmbboogaaaZLongest25
import Derived.Test.YtdpeopmbboogaaaZLongest36
import Derived.Test.YtdpeopmbboogaaaZLongest48
import Derived.Test.YtdpeopmbboogaaaZLongest22
import Derived.ShutString
import Derived.ChangeOld
import Derived.Lib.SmallJoins
namespace Go.Proofs.Ytdpeopmbboogaaa.fnLongest
open Go.ChangeShapes Go.WideShapes Go.ChangeAt Go.RowKit
set_option linter.unusedVariables false
set_option linter.unusedSimpArgs false

set_option maxHeartbeats 2000000 in
theorem sameI_self (av bv : Option Addr) (n c d lo hi lo2 hi2 : Nat) (zs : List Int) (w : World) (h1 : MI w av n c lo hi (icell zs)) (h2 : MI w bv n d lo2 hi2 (icell zs)) :
    Calls Try.prog 16 #[.slice av n c, .slice bv n d] w fun e w' => e = .returned (.bool true) ∧ Below w.heap.size w w' := by
  have hm1 := h1.1
  have hm2 := h1.2.1
  have hm3 := h2.1
  have hm4 := h2.2.1
  unfold maxLen at hm2 hm4
  have hnb : ((n : Int) != (n : Int)) = false := by simp
  go_enter Try.func16, Try.ntmps16
  go_wp2_with fail
  go_loopw [5] (fun i wr => ∃ p : Nat, p ≤ n ∧ i = .int .i64 p ∧ Below w.heap.size w wr) (fun i _ => n - (intOf i).toNat)
  case atStart => exact ⟨0, Nat.zero_le _, rfl, Below.refl _ _⟩
  case round =>
    obtain ⟨p, hp, rfl, hB⟩ := hrel
    by_cases hlt : p < n
    · have g1 := h1.below hB
      have g2 := h2.below hB
      rcases g1.2.2 with ⟨h0, _⟩ | ⟨g, rfl, _, _, r1⟩
      · omega
      rcases g2.2.2 with ⟨h0, _⟩ | ⟨gg, rfl, _, _, r2⟩
      · omega
      have hgl := r1.lt
      have hgl2 := r2.lt
      have i0 : (0 : Int) ≤ (p : Int) := by omega
      have i1 : (p : Int) < (n : Int) := by omega
      have d0 := r1.cell (o := p) hlt
      have c0 := r2.cell (o := p) hlt
      unfold icell at d0 c0
      clear g1 g2
      go_wp2_with fail
      go_region_held3 (fun w' => Kp wr w') (first | exact kp_zero _ | exact kp_drew (by assumption) | exact kp_step (by assumption) (by assumption)) (fail)
      rename_i hK
      have hB' := hB.trans (hK.1.mono hB.size)
      go_wp2_with fail
      exact ⟨⟨p + 1, by omega, by go_num, hB'⟩, by simp [intOf]; omega⟩
    · go_wp2_with fail
      go_ret
      exact ⟨rfl, hB⟩

set_option maxHeartbeats 16000000 in
set_option maxRecDepth 100000 in
theorem walk (av : Option Addr) (len cap : Nat) (w : World) (h : IsBytes w av len cap) :
    Calls Try.prog 4 #[.slice av len cap] w fun e w' => e = .returned (.bool true) ∧ Below w.heap.size w w' := by
  by_cases hl : (1048576 : Int) < (len : Int)
  · go_enter Try.func4, Try.ntmps4
    go_wp2_with fail
    refine (big_any _ _ _ _ h.hc h.hm).mono ?_
    rw [decide_eq_true hl]
    rintro e w0 ⟨rfl, rfl⟩
    go_wp2_with fail
    go_ret
    exact ⟨rfl, Below.refl _ _⟩
  · go_enter Try.func4, Try.ntmps4
    go_wp2_with fail
    refine (big_any _ _ _ _ h.hc h.hm).mono ?_
    rw [decide_eq_false (by omega : ¬ (1048576 : Int) < (len : Int))]
    rintro e w0 ⟨rfl, rfl⟩
    go_wp2_with fail
    refine (drawLongest_any _ _ _ _ h).mono ?_
    rintro e w1 ⟨bv, c, us, tr, rfl, hn, hsh, u1, B1⟩
    obtain ⟨n, hne⟩ : ∃ n, Hid (us.length = n) := ⟨_, rfl⟩
    rw [hne.out] at u1 hn ⊢
    obtain ⟨O, HF⟩ : ∃ O, Hid (M1.fors us tr = O) := ⟨_, rfl⟩
    obtain ⟨q, hq⟩ : ∃ q, Hid (O.length = q) := ⟨_, rfl⟩
    have hq60 : q ≤ 60 := by
      have h2 := M1.sps_60 us tr
      have h3 := M1.for_len_eq (M1.sps_sorted us tr)
      have h4 : O.length = (M1.sps us tr).length := by rw [← HF.out]; exact h3
      rw [hq.out] at h4
      omega
    obtain ⟨P, HP⟩ : ∃ P, Hid (M1.lngs us tr = P) := ⟨_, rfl⟩
    obtain ⟨z, hz⟩ : ∃ z, Hid (P.length = z) := ⟨_, rfl⟩
    have hzq : z ≤ q := by
      have := M1.lng_le O q
      have e : P = (M1.lng O q).2 := by rw [← HP.out]; unfold M1.lngs; rw [HF.out, hq.out]
      rw [← e, hz.out] at this
      exact this
    go_wp2_with fail
    have c2 := longest_impl _ _ _ _ tr _ u1
    rw [HP.out] at c2
    refine c2.mono ?_
    clear c2
    rintro e w2 ⟨⟨aP, cP, rfl, P2⟩, hb2⟩
    rw [hz.out] at P2 ⊢
    have u2 := u1.below hb2
    have B2 := B1.trans (hb2.mono B1.size)
    clear u1 B1 hb2
    go_wp2_with fail
    have c3 := longest_spec _ _ _ _ tr _ u2
    rw [HP.out] at c3
    refine c3.mono ?_
    clear c3
    rintro e w3 ⟨⟨aX, cX, rfl, X3⟩, hb3⟩
    rw [hz.out] at X3 ⊢
    have u3 := u2.below hb3
    have P3 := P2.below hb3
    have B3 := B2.trans (hb3.mono B2.size)
    clear u2 B2 hb3 P2
    go_wp2_with fail
    refine (sameI_self _ _ _ _ _ _ _ _ _ _ _ P3 X3).mono ?_
    rintro e w4 ⟨rfl, hb4⟩
    have u4 := u3.below hb4
    have P4 := P3.below hb4
    have B4 := B3.trans (hb4.mono B3.size)
    clear u3 B3 hb4 P3 X3
    go_wp2_with fail
    obtain ⟨ok, hok⟩ : ∃ b, Hid (M1.setOk us = b) := ⟨_, rfl⟩
    refine (setOk_spec _ _ _ _ _ u4).mono ?_
    rw [hok.out]
    rintro e w5 ⟨rfl, hb5⟩
    have u5 := u4.below hb5
    have P5 := P4.below hb5
    have B5 := B4.trans (hb5.mono B4.size)
    clear u4 B4 hb5 P4
    cases ok with
    | false =>
      go_wp2_with fail
      have c6 := longest_spec _ _ _ _ tr _ u5
      rw [HP.out] at c6
      refine c6.mono ?_
      clear c6
      rintro e w6 ⟨⟨aY, cY, rfl, Y6⟩, hb6⟩
      rw [hz.out] at Y6 ⊢
      have P6 := P5.below hb6
      have B6 := B5.trans (hb6.mono B5.size)
      go_wp2_with fail
      refine (sameI_self _ _ _ _ _ _ _ _ _ _ _ P6 Y6).mono ?_
      rintro e w7 ⟨rfl, hb7⟩
      have B7 := B6.trans (hb7.mono B6.size)
      go_wp2_with fail
      go_ret
      exact ⟨rfl, B7⟩
    | true =>
      go_wp2_with fail
      have c6 := forestOf_impl _ _ _ _ tr _ u5
      rw [HF.out] at c6
      refine c6.mono ?_
      clear c6
      rintro e w6 ⟨⟨aF, cF, rfl, F6⟩, hb6⟩
      rw [hq.out] at F6 ⊢
      have P6 := P5.below hb6
      have B6 := B5.trans (hb6.mono B5.size)
      have fc0 := F6.1
      have fc1 := F6.2.1
      have sc0 := P6.1
      have sc1 := P6.2.1
      unfold maxLen at fc1 sc1
      clear P5 B5 u5 hb6 hsh
      by_cases hq0 : q = 0
      · subst hq0
        have hz0 : z = 0 := by omega
        subst hz0
        go_wp2_with fail
        go_ret
        exact ⟨rfl, B6⟩
      · obtain ⟨b, D, hb, hPD, hbD, hben, hlat, hid, hpar⟩ := lng_law HF.out HP.out (by rw [hq.out]; omega)
        rw [hq.out] at hb hlat
        rw [hz.out] at hPD
        have hzD : Hid (z = D + 1) := hPD
        have HID : Hid (∀ k, k < O.length → ((nd O k).1.id = P.getD D 0 ↔ k = b)) := hid
        have HPAR : Hid (∀ k, k < O.length → ∀ i, 0 < i → i < P.length → (nd O k).1.id = P.getD i 0 → (nd O k).1.pa = P.getD (i - 1) 0) := hpar
        have HBD : Hid ((nd O b).2 = (D : Int)) := hbD
        have HLAT : Hid (M1.lat O q = (nd O b).1.en) := hlat
        have HBEN : Hid (0 ≤ (nd O b).1.en) := hben
        have hz1 : ((z : Int) == 0) = false := by simp; omega
        have hq1 : ((q : Int) == 0) = false := by simp; omega
        have hzD2 : D < z := by omega
        have hzD3 : z ≤ D + 1 := by omega
        have hzI : ((z : Int) - 1) = (D : Int) := by omega
        clear hPD hid hpar hbD hlat hben
        go_wp2_with fail
        go_loopw [7, 8, 9] (fun lv tv kv wr => ∃ k : Nat, k ≤ q ∧ kv = .int .i64 k ∧ lv = .int .i64 (M1.lat O k) ∧ tv = .int .i64 (if b < k then (nd O b).1.en else -1) ∧ Below w6.heap.size w6 wr) (fun _ _ kv _ => q - (intOf kv).toNat)
        case atStart => exact ⟨0, Nat.zero_le _, rfl, rfl, by simp, Below.refl _ _⟩
        case round =>
          obtain ⟨k, hk, rfl, rfl, rfl, hB⟩ := hrel
          by_cases hlt : k < q
          · have Fr := F6.below hB
            have Pr := P6.below hB
            rcases Fr.2.2 with ⟨h0, _⟩ | ⟨gf, rfl, _, _, rf⟩
            · omega
            rcases Pr.2.2 with ⟨h0, _⟩ | ⟨gp, rfl, _, _, rp⟩
            · omega
            have hgf := rf.lt
            have hgp := rp.lt
            have k0 : (0 : Int) ≤ (k : Int) := by omega
            have k1 : (k : Int) < (q : Int) := by omega
            have D0 : (0 : Int) ≤ (D : Int) := by omega
            have D1 : (D : Int) < (z : Int) := by omega
            have hkO : k < O.length := by rw [hq.out]; exact hlt
            have hidk := HID.out k hkO
            have HPK : Hid (∀ i, 0 < i → i < P.length → (nd O k).1.id = P.getD i 0 → (nd O k).1.pa = P.getD (i - 1) 0) := HPAR.out k hkO
            have HLS : Hid (M1.lat O (k + 1) = max (M1.lat O k) (nd O k).1.en) := M1.lat_step (nd_some hkO)
            have HDK : Hid (k = b → (nd O k).2 = (D : Int)) := fun e => by rw [e]; exact HBD.out
            have HEK : Hid (k = b → (nd O b).1.en = (nd O k).1.en) := fun e => by rw [e]
            clear hkO
            have d0 := rf.cell (o := k * 6) (by omega)
            have d1 := rf.cell (o := k * 6 + 1) (by omega)
            have d4 := rf.cell (o := k * 6 + 4) (by omega)
            have d5 := rf.cell (o := k * 6 + 5) (by omega)
            rw [show ncell O (k * 6) = .int .i64 (nd O k).1.id from ncell_at O k 0 (by omega)] at d0
            rw [show ncell O (k * 6 + 1) = .int .i64 (nd O k).1.pa from ncell_at O k 1 (by omega)] at d1
            rw [show ncell O (k * 6 + 4) = .int .i64 (nd O k).1.en from ncell_at O k 4 (by omega)] at d4
            rw [show ncell O (k * 6 + 5) = .int .i64 (nd O k).2 from ncell_at O k 5 (by omega)] at d5
            have pD := rp.cell (o := D) (by omega)
            unfold icell at pD
            obtain ⟨x, hx⟩ : ∃ x, Hid ((nd O k).1.id = x) := ⟨_, rfl⟩
            obtain ⟨pk, hpk⟩ : ∃ x, Hid ((nd O k).1.pa = x) := ⟨_, rfl⟩
            obtain ⟨E, hE⟩ : ∃ x, Hid ((nd O k).1.en = x) := ⟨_, rfl⟩
            obtain ⟨dk, hdk⟩ : ∃ x, Hid ((nd O k).2 = x) := ⟨_, rfl⟩
            obtain ⟨y, hy⟩ : ∃ y, Hid (P.getD D 0 = y) := ⟨_, rfl⟩
            obtain ⟨L, hL⟩ : ∃ x, Hid (M1.lat O k = x) := ⟨_, rfl⟩
            obtain ⟨eb, heb⟩ : ∃ x, Hid ((nd O b).1.en = x) := ⟨_, rfl⟩
            rw [hx.out] at d0 hidk HPK
            rw [hpk.out] at d1 HPK
            rw [hE.out] at d4 HLS HEK
            rw [hdk.out] at d5 HDK
            rw [hy.out] at pD hidk
            rw [hL.out] at HLS
            rw [heb.out] at HEK
            have HIDK : Hid (x = y ↔ k = b) := hidk
            clear hidk
            obtain ⟨T, hT⟩ : ∃ T, Hid ((if b < k then eb else (-1 : Int)) = T) := ⟨_, rfl⟩
            rw [hL.out, heb.out, hT.out]
            have HT1 : Hid (x = y → (if b < k + 1 then eb else (-1 : Int)) = E ∧ dk = (D : Int)) := fun e => by
              have e2 := HIDK.out.1 e
              rw [if_pos (by omega)]
              exact ⟨HEK.out e2, HDK.out e2⟩
            have HT2 : Hid (¬ x = y → (if b < k + 1 then eb else (-1 : Int)) = T) := fun e => by
              have e2 : ¬ k = b := fun h => e (HIDK.out.2 h)
              rw [← hT.out]
              by_cases c : b < k
              · rw [if_pos c, if_pos (by omega)]
              · rw [if_neg c, if_neg (by omega)]
            by_cases hxy : x = y
            · obtain ⟨e1, e2⟩ := HT1.out hxy
              have HTN : Hid ((if b < k + 1 then eb else (-1 : Int)) = E) := e1
              have hxb : (x == y) = true := by simp [hxy]
              have hdb : (dk != (z : Int) - 1) = false := by rw [e2]; simp; omega
              clear e1 e2 hxy
              go_wp2_with fail
              go_quiet (fail)
              go_wp2_with fail
              have hB2 := bel_drewN hB nq
              have rf2 := rf.below (bel_drewN (Below.refl wr.heap.size wr) nq)
              have rp2 := rp.below (bel_drewN (Below.refl wr.heap.size wr) nq)
              clear d0 d1 d4 d5 pD hgf hgp
              generalize wr.drewN nq = Wo at hB2 rf2 rp2 ⊢
              go_loopw [10] (fun iv wr => ∃ i : Nat, 1 ≤ i ∧ i ≤ z ∧ iv = .int .i64 i ∧ Below Wo.heap.size Wo wr) (fun iv _ => z - (intOf iv).toNat)
              case atStart => exact ⟨1, Nat.le_refl _, by omega, rfl, Below.refl _ _⟩
              case round =>
                obtain ⟨i, hi1, hi, rfl, hBo⟩ := hrel
                by_cases hil : i < z
                · have r2 := rf2.below hBo
                  have s2 := rp2.below hBo
                  have hg2 := r2.lt
                  have hs2 := s2.lt
                  have i0 : (0 : Int) ≤ (i : Int) := by omega
                  have i1 : (i : Int) < (z : Int) := by omega
                  have ii0 : (0 : Int) ≤ (i : Int) - 1 := by omega
                  have ii1 : (i : Int) - 1 < (z : Int) := by omega
                  have e0 := r2.cell (o := k * 6) (by omega)
                  have e1 := r2.cell (o := k * 6 + 1) (by omega)
                  rw [show ncell O (k * 6) = .int .i64 (nd O k).1.id from ncell_at O k 0 (by omega), hx.out] at e0
                  rw [show ncell O (k * 6 + 1) = .int .i64 (nd O k).1.pa from ncell_at O k 1 (by omega), hpk.out] at e1
                  have pi := s2.cell (o := i) (by omega)
                  have pj := s2.cell (o := i - 1) (by omega)
                  unfold icell at pi pj
                  have HPI := HPK.out i (by omega) (by rw [hz.out]; exact hil)
                  obtain ⟨a, ha⟩ : ∃ a, Hid (P.getD i 0 = a) := ⟨_, rfl⟩
                  obtain ⟨a2, ha2⟩ : ∃ a, Hid (P.getD (i - 1) 0 = a) := ⟨_, rfl⟩
                  rw [ha.out] at pi HPI
                  rw [ha2.out] at pj HPI
                  by_cases hxa : x = a
                  · have hpa := HPI hxa
                    have b1 : (x == a) = true := by simp [hxa]
                    have b2 : (pk != a2) = false := by simp [hpa]
                    clear hxa hpa HPI
                    go_wp2_with fail
                    go_quiet (fail)
                    go_wp2_with fail
                    exact ⟨⟨i + 1, by omega, by omega, by go_num, bel_drewN hBo _⟩, by simp [intOf]; omega⟩
                  · have b1 : (x == a) = false := by simp [hxa]
                    clear hxa HPI
                    go_wp2_with fail
                    go_quiet (fail)
                    go_wp2_with fail
                    exact ⟨⟨i + 1, by omega, by omega, by go_num, bel_drewN hBo _⟩, by simp [intOf]; omega⟩
                · have hB3 := hB2.trans (hBo.mono hB2.size)
                  go_wp2_with fail
                  exact ⟨⟨k + 1, by omega, by go_num, by rw [HLS.out], by rw [HTN.out], hB3⟩, by simp [intOf]; omega⟩
            · have HTN : Hid ((if b < k + 1 then eb else (-1 : Int)) = T) := HT2.out hxy
              have hxb : (x == y) = false := by simp [hxy]
              clear hxy
              go_wp2_with fail
              go_quiet (fail)
              go_wp2_with fail
              have hB2 := bel_drewN hB nq
              have rf2 := rf.below (bel_drewN (Below.refl wr.heap.size wr) nq)
              have rp2 := rp.below (bel_drewN (Below.refl wr.heap.size wr) nq)
              clear d0 d1 d4 d5 pD hgf hgp
              generalize wr.drewN nq = Wo at hB2 rf2 rp2 ⊢
              go_loopw [10] (fun iv wr => ∃ i : Nat, 1 ≤ i ∧ i ≤ z ∧ iv = .int .i64 i ∧ Below Wo.heap.size Wo wr) (fun iv _ => z - (intOf iv).toNat)
              case atStart => exact ⟨1, Nat.le_refl _, by omega, rfl, Below.refl _ _⟩
              case round =>
                obtain ⟨i, hi1, hi, rfl, hBo⟩ := hrel
                by_cases hil : i < z
                · have r2 := rf2.below hBo
                  have s2 := rp2.below hBo
                  have hg2 := r2.lt
                  have hs2 := s2.lt
                  have i0 : (0 : Int) ≤ (i : Int) := by omega
                  have i1 : (i : Int) < (z : Int) := by omega
                  have ii0 : (0 : Int) ≤ (i : Int) - 1 := by omega
                  have ii1 : (i : Int) - 1 < (z : Int) := by omega
                  have e0 := r2.cell (o := k * 6) (by omega)
                  have e1 := r2.cell (o := k * 6 + 1) (by omega)
                  rw [show ncell O (k * 6) = .int .i64 (nd O k).1.id from ncell_at O k 0 (by omega), hx.out] at e0
                  rw [show ncell O (k * 6 + 1) = .int .i64 (nd O k).1.pa from ncell_at O k 1 (by omega), hpk.out] at e1
                  have pi := s2.cell (o := i) (by omega)
                  have pj := s2.cell (o := i - 1) (by omega)
                  unfold icell at pi pj
                  have HPI := HPK.out i (by omega) (by rw [hz.out]; exact hil)
                  obtain ⟨a, ha⟩ : ∃ a, Hid (P.getD i 0 = a) := ⟨_, rfl⟩
                  obtain ⟨a2, ha2⟩ : ∃ a, Hid (P.getD (i - 1) 0 = a) := ⟨_, rfl⟩
                  rw [ha.out] at pi HPI
                  rw [ha2.out] at pj HPI
                  by_cases hxa : x = a
                  · have hpa := HPI hxa
                    have b1 : (x == a) = true := by simp [hxa]
                    have b2 : (pk != a2) = false := by simp [hpa]
                    clear hxa hpa HPI
                    go_wp2_with fail
                    go_quiet (fail)
                    go_wp2_with fail
                    exact ⟨⟨i + 1, by omega, by omega, by go_num, bel_drewN hBo _⟩, by simp [intOf]; omega⟩
                  · have b1 : (x == a) = false := by simp [hxa]
                    clear hxa HPI
                    go_wp2_with fail
                    go_quiet (fail)
                    go_wp2_with fail
                    exact ⟨⟨i + 1, by omega, by omega, by go_num, bel_drewN hBo _⟩, by simp [intOf]; omega⟩
                · have hB3 := hB2.trans (hBo.mono hB2.size)
                  go_wp2_with fail
                  exact ⟨⟨k + 1, by omega, by go_num, by rw [HLS.out], by rw [HTN.out], hB3⟩, by simp [intOf]; omega⟩
          · have hkq : k = q := by omega
            rw [if_pos (by omega : b < k), hkq, HLAT.out]
            obtain ⟨E, hE⟩ : ∃ E, Hid ((nd O b).1.en = E) := ⟨_, rfl⟩
            rw [hE.out]
            have B7 := B6.trans (hB.mono B6.size)
            subst hkq
            go_wp2_with fail
            go_ret
            exact ⟨by simp, B7⟩

theorem own : ownKnob Try.prog.godebug = none := by kernel_rfl
theorem laidOut : laidOutB Try.prog = true := by kernel_rfl
set_option maxRecDepth 100000 in
theorem lifted (os : Os) (started : os.Started) (H : Type) (enc : TypeId × Value → H) :
    ReturnsInHanded {} Try.checked os 4 .any (Rows.fnLongestSpec.pre6 enc Try.prog Try.f4 Rows.fnLongestRow.domain false) (Rows.fnLongestSpec.post enc Try.prog Try.f4 false true false false) := by
  refine returnsInHanded_of_change (C := Try.checked) own started (by kernel_rfl) Try.func4
    (ChangeSpec.witness6 (enc := enc) (C := Try.checked) false ⟨#[], #[.slice none 0 0], []⟩ 8 (by kernel_rfl) (by kernel_rfl) (by kernel_rfl) (by kernel_rfl)) ?_
  intro W base args ds gs before hval0 hW hcnd _
  have hval : ∀ (j : Nat) t v, Try.f4.params[j]? = some t → args[j]? = some v → Value.okWide Try.prog W .any base t v := hval0
  have hW' := hW
  obtain ⟨p, q, hA0, hV, rfl, hfz, hnd⟩ := hW
  have hA : DataW.TrodAll enc Try.prog W 0 (fun _ => true) true Try.f4.params.toList args.toList ds p := hA0
  rw [Try.params4] at hA hval
  obtain ⟨v0, vs0, d0, ds0, p0, q0, hargs, rfl, rfl, h0, r0⟩ := trodAll_cons hA
  obtain ⟨rfl, rfl, rfl⟩ := trodAll_nil r0
  obtain rfl : args = #[v0] := by cases args; simp_all
  obtain ⟨rfl, rfl⟩ := trodVars_none hV
  have k0 := h0
  have lt0 : ∀ x ∈ p0, x.block < W.heap.size := by obtain ⟨m, hm⟩ := k0; exact DataW.trod_lt m _ _ _ hm
  obtain ⟨a0, l0, c0, rfl⟩ := okWide_slice Try.underlying22 (hval 0 22 v0 rfl rfl)
  obtain ⟨fu0, hf0⟩ := h0
  have by0 := open_bytes hf0
  clear hA0 hval0
  refine (walk a0 l0 c0 W by0).mono fun e W' ⟨he, bel⟩ => ?_
  subst he
  exact ⟨_, rfl, _, _, _, [], _, [], hW', trodAll_mk1 (shut_bool Try.underlying4 _), (trodAll_cons_mk (Below.trod laidOut (by kernel_rfl) (of_decide_eq_true (by kernel_rfl)) k0 bel lt0) trodAll_mk0), rfl, bel.frame _, fun h => by cases h⟩

theorem over : Rows.fnLongestRow.holds Try.pinned (OpenSpec.ofChange Rows.fnLongestSpec) :=
  OpenClaim.holds_of_wide 4 Try.f4 rfl rfl rfl rfl rfl rfl rfl ⟨rfl, rfl, rfl, rfl, rfl⟩ rfl rfl rfl rfl rfl (by kernel_rfl) Try.func4 (by kernel_rfl)
    (of_decide_eq_true (by kernel_rfl)) (by unfold Func.isWrapper; first | (rw [if_pos (by decide +kernel)]; kernel_rfl) | (rw [if_neg (by decide +kernel)]; exact ⟨rfl, rfl⟩))
    (fun os started H enc _ => lifted os started H enc)

theorem proved : Rows.FnLongestSaid := over
end Go.Proofs.Ytdpeopmbboogaaa.fnLongest
namespace Go.Proofs.Ytdpeopmbboogaaa
theorem fnLongest_holds : Rows.FnLongestSaid := fnLongest.proved
end Go.Proofs.Ytdpeopmbboogaaa
