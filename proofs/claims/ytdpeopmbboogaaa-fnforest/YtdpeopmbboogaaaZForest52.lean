/-
  For every slice of bytes the law FnForest answers true: the forest of a drawn set and trace has each span once; one that is no root stands below its parent, one deeper, with nothing less deep between; a root has no parent there, or is of a circle; the argument reads as it did. No condition.
-/
import Derived.Test.YtdpeopmbboogaaaZForest26
import Derived.Test.YtdpeopmbboogaaaZForest38
import Derived.Test.YtdpeopmbboogaaaZForest51
import Derived.Test.YtdpeopmbboogaaaZForest23
import Derived.ShutString
import Derived.ChangeOld
import Derived.Lib.SmallJoins
namespace Go.Proofs.Ytdpeopmbboogaaa.fnForest
open Go.ChangeShapes Go.WideShapes Go.ChangeAt Go.RowKit
set_option linter.unusedVariables false
set_option linter.unusedSimpArgs false

set_option maxHeartbeats 4000000 in
theorem sameNodes_self (av bv : Option Addr) (n cn cm lo hi lo2 hi2 : Nat) (us : List (M1.Upd × Int)) (w : World) (h1 : MN w av n cn lo hi (ncell us)) (h2 : MN w bv n cm lo2 hi2 (ncell us)) :
    Calls Try.prog 10 #[.slice av n cn, .slice bv n cm] w fun e w' => e = .returned (.bool true) ∧ Below w.heap.size w w' := by
  have hm1 := h1.1
  have hm2 := h1.2.1
  have hm3 := h2.1
  have hm4 := h2.2.1
  unfold maxLen at hm2 hm4
  have hnb : ((n : Int) != (n : Int)) = false := by simp
  go_enter Try.func10, Try.ntmps10
  go_wp2_with fail
  go_loopw [5] (fun i wr => ∃ p : Nat, p ≤ n ∧ i = .int .i64 p ∧ Below w.heap.size w wr) (fun i _ => n - (intOf i).toNat)
  case atStart => exact ⟨0, Nat.zero_le _, rfl, Below.refl _ _⟩
  case round =>
    obtain ⟨p, hp, rfl, hB⟩ := hrel
    by_cases hlt : p < n
    · have g1 := h1.below hB
      have g2 := h2.below hB
      rcases g1.2.2 with ⟨h0, _⟩ | ⟨g, rfl, _, _, r1⟩
      · omega
      rcases g2.2.2 with ⟨h0, _⟩ | ⟨gg, rfl, _, _, r2⟩
      · omega
      have hgl := r1.lt
      have hgl2 := r2.lt
      have i0 : (0 : Int) ≤ (p : Int) := by omega
      have i1 : (p : Int) < (n : Int) := by omega
      have z0 : ncell us (p * 6) = .int .i64 (nd us p).1.id := ncell_at us p 0 (by omega)
      have z1 : ncell us (p * 6 + 1) = .int .i64 (nd us p).1.pa := ncell_at us p 1 (by omega)
      have z2 : ncell us (p * 6 + 2) = .string (nd us p).1.s := ncell_at us p 2 (by omega)
      have z3 : ncell us (p * 6 + 3) = .int .i64 (nd us p).1.st := ncell_at us p 3 (by omega)
      have z4 : ncell us (p * 6 + 4) = .int .i64 (nd us p).1.en := ncell_at us p 4 (by omega)
      have z5 : ncell us (p * 6 + 5) = .int .i64 (nd us p).2 := ncell_at us p 5 (by omega)
      have d0 := r1.cell (o := p * 6) (by omega)
      have d1 := r1.cell (o := p * 6 + 1) (by omega)
      have d2 := r1.cell (o := p * 6 + 2) (by omega)
      have d3 := r1.cell (o := p * 6 + 3) (by omega)
      have d4 := r1.cell (o := p * 6 + 4) (by omega)
      have d5 := r1.cell (o := p * 6 + 5) (by omega)
      have c0 := r2.cell (o := p * 6) (by omega)
      have c1 := r2.cell (o := p * 6 + 1) (by omega)
      have c2 := r2.cell (o := p * 6 + 2) (by omega)
      have c3 := r2.cell (o := p * 6 + 3) (by omega)
      have c4 := r2.cell (o := p * 6 + 4) (by omega)
      have c5 := r2.cell (o := p * 6 + 5) (by omega)
      rw [z0] at d0 c0
      rw [z1] at d1 c1
      rw [z2] at d2 c2
      rw [z3] at d3 c3
      rw [z4] at d4 c4
      rw [z5] at d5 c5
      clear z0 z1 z2 z3 z4 z5 g1 g2
      go_wp2_with fail
      go_quiet (fail)
      go_wp2_with fail
      exact ⟨⟨p + 1, by omega, by go_num, bel_drewN hB _⟩, by simp [intOf]; omega⟩
    · go_wp2_with fail
      go_ret
      exact ⟨rfl, hB⟩
set_option maxRecDepth 100000 in
theorem eqSp5 (a b : M1.Upd) (w : World) : (Op.equalIn 10000 34 (.agg #[.int .i64 a.id, .int .i64 a.pa, .string a.s, .int .i64 a.st, .int .i64 a.en]) (.agg #[.int .i64 b.id, .int .i64 b.pa, .string b.s, .int .i64 b.st, .int .i64 b.en])).run Try.prog w = .ok (M1.seq a b) w := by
  have h := run_equalIn_agg (P := Try.prog) w 9999 34 #[.int .i64 a.id, .int .i64 a.pa, .string a.s, .int .i64 a.st, .int .i64 a.en] #[.int .i64 b.id, .int .i64 b.pa, .string b.s, .int .i64 b.st, .int .i64 b.en] (by kernel_rfl) (by kernel_rfl)
  rw [h]
  simp [go_sem]
  simp only [ite_chain]
  unfold M1.seq
  congr 1
  simp
attribute [local go_sem high] eqSp5

set_option maxHeartbeats 16000000 in
set_option maxRecDepth 100000 in
theorem walk (av : Option Addr) (len cap : Nat) (w : World) (h : IsBytes w av len cap) :
    Calls Try.prog 3 #[.slice av len cap] w fun e w' => e = .returned (.bool true) ∧ Below w.heap.size w w' := by
  by_cases hl : (1048576 : Int) < (len : Int)
  · go_enter Try.func3, Try.ntmps3
    go_wp2_with fail
    refine (big_any _ _ _ _ h.hc h.hm).mono ?_
    rw [decide_eq_true hl]
    rintro e w0 ⟨rfl, rfl⟩
    go_wp2_with fail
    go_ret
    exact ⟨rfl, Below.refl _ _⟩
  · go_enter Try.func3, Try.ntmps3
    go_wp2_with fail
    refine (big_any _ _ _ _ h.hc h.hm).mono ?_
    rw [decide_eq_false (by omega : ¬ (1048576 : Int) < (len : Int))]
    rintro e w0 ⟨rfl, rfl⟩
    go_wp2_with fail
    refine (drawForestOf_any _ _ _ _ h).mono ?_
    rintro e w1 ⟨bv, c, us, tr, rfl, hn, hsh, u1, B1⟩
    obtain ⟨n, hne⟩ : ∃ n, Hid (us.length = n) := ⟨_, rfl⟩
    rw [hne.out] at u1 hn ⊢
    obtain ⟨S, hS⟩ : ∃ S, Hid (M1.sps us tr = S) := ⟨_, rfl⟩
    have HSO : Hid (S.Pairwise M1.idlt) := (by rw [← hS.out]; exact M1.sps_sorted us tr : S.Pairwise M1.idlt)
    obtain ⟨m, hm⟩ : ∃ m, Hid (S.length = m) := ⟨_, rfl⟩
    obtain ⟨O, hO⟩ : ∃ O, Hid (M1.forest S = O) := ⟨_, rfl⟩
    have HF : Hid (M1.fors us tr = O) := (by unfold M1.fors; rw [hS.out]; exact hO.out : _ = _)
    have hq : Hid (O.length = m) := (by rw [← hO.out, M1.for_len_eq HSO.out]; exact hm.out : _ = _)
    have hm60 : m ≤ 60 := by have := M1.sps_60 us tr; rw [hS.out, hm.out] at this; exact this
    go_wp2_with fail
    have c2 := forestOf_impl _ _ _ _ tr _ u1
    rw [HF.out] at c2
    refine c2.mono ?_
    clear c2
    rintro e w2 ⟨⟨aF, cF, rfl, F2⟩, hb2⟩
    rw [hq.out] at F2 ⊢
    have u2 := u1.below hb2
    have B2 := B1.trans (hb2.mono B1.size)
    clear u1 B1 hb2
    go_wp2_with fail
    have c3 := forestOf_spec _ _ _ _ tr _ u2
    rw [HF.out] at c3
    refine c3.mono ?_
    clear c3
    rintro e w3 ⟨⟨aX, cX, rfl, X3⟩, hb3⟩
    rw [hq.out] at X3 ⊢
    have u3 := u2.below hb3
    have F3 := F2.below hb3
    have B3 := B2.trans (hb3.mono B2.size)
    clear u2 B2 hb3 F2
    go_wp2_with fail
    refine (sameNodes_self _ _ _ _ _ _ _ _ _ _ _ F3 X3).mono ?_
    rintro e w4 ⟨rfl, hb4⟩
    have u4 := u3.below hb4
    have F4 := F3.below hb4
    have B4 := B3.trans (hb4.mono B3.size)
    clear u3 B3 hb4 F3 X3
    go_wp2_with fail
    obtain ⟨ok, hok⟩ : ∃ b, Hid (M1.setOk us = b) := ⟨_, rfl⟩
    refine (setOk_spec _ _ _ _ _ u4).mono ?_
    rw [hok.out]
    rintro e w5 ⟨rfl, hb5⟩
    have u5 := u4.below hb5
    have F5 := F4.below hb5
    have B5 := B4.trans (hb5.mono B4.size)
    clear u4 B4 hb5 F4
    cases ok with
    | false =>
      go_wp2_with fail
      have c6 := forestOf_spec _ _ _ _ tr _ u5
      rw [HF.out] at c6
      refine c6.mono ?_
      clear c6
      rintro e w6 ⟨⟨aY, cY, rfl, Y6⟩, hb6⟩
      rw [hq.out] at Y6 ⊢
      have F6 := F5.below hb6
      have B6 := B5.trans (hb6.mono B5.size)
      go_wp2_with fail
      refine (sameNodes_self _ _ _ _ _ _ _ _ _ _ _ F6 Y6).mono ?_
      rintro e w7 ⟨rfl, hb7⟩
      have B7 := B6.trans (hb7.mono B6.size)
      go_wp2_with fail
      go_ret
      exact ⟨rfl, B7⟩
    | true =>
      go_wp2_with fail
      have c6 := spansOf_impl _ _ _ _ tr _ u5
      rw [hS.out] at c6
      refine c6.mono ?_
      clear c6
      rintro e w6 ⟨⟨aS, cS, rfl, S6⟩, hb6⟩
      rw [hm.out] at S6 ⊢
      have F6 := F5.below hb6
      have B6 := B5.trans (hb6.mono B5.size)
      have fc0 := F6.1
      have fc1 := F6.2.1
      have sc0 := S6.1
      have sc1 := S6.2.1
      unfold maxLen at fc1 sc1
      clear F5 B5 u5 hb6 hsh
      go_wp2_with fail
      go_loopw [7] (fun iv wr => ∃ i : Nat, i ≤ m ∧ iv = .int .i64 i ∧ Below w6.heap.size w6 wr) (fun iv _ => m - (intOf iv).toNat)
      case atStart => exact ⟨0, Nat.zero_le _, rfl, Below.refl _ _⟩
      case round =>
        obtain ⟨i, hi, rfl, hB⟩ := hrel
        by_cases hlt : i < m
        · obtain ⟨p, hp, HPL⟩ := for_place HSO.out hO.out (i := i) (by rw [hm.out]; exact hlt)
          have HPL : Hid (∀ j, j < O.length → M1.seq (nd O j).1 (M1.up S i) = decide (j = p)) := HPL
          rw [hq.out] at hp
          have Sr := S6.below hB
          rcases Sr.2.2 with ⟨h0, _⟩ | ⟨gs, rfl, _, _, rs⟩
          · omega
          have i0 : (0 : Int) ≤ (i : Int) := by omega
          have i1 : (i : Int) < (m : Int) := by omega
          obtain ⟨u, hu⟩ : ∃ u, Hid (M1.up S i = u) := ⟨_, rfl⟩
          rw [hu.out] at HPL
          go_wp2_with fail
          obtain ⟨Wo, hWo⟩ : ∃ W, W = wr := ⟨_, rfl⟩
          subst hWo
          go_loopw [8, 9] (fun mv kv wr => ∃ k : Nat, k ≤ m ∧ kv = .int .i64 k ∧ mv = .int .i64 (if p < k then 1 else 0) ∧ Below Wo.heap.size Wo wr) (fun _ kv _ => m - (intOf kv).toNat)
          case atStart => exact ⟨0, Nat.zero_le _, rfl, by simp, Below.refl _ _⟩
          case round =>
            obtain ⟨k, hk, rfl, rfl, hBo⟩ := hrel
            by_cases hkl : k < m
            · have Fr := (F6.below hB).below hBo
              have rs2 := rs.below hBo
              rcases Fr.2.2 with ⟨h0, _⟩ | ⟨gf, rfl, _, _, rf⟩
              · omega
              have k0 : (0 : Int) ≤ (k : Int) := by omega
              have k1 : (k : Int) < (m : Int) := by omega
              have hgs := rs2.lt
              have hgf := rf.lt
              have c0 := rs2.cell (o := i * 5) (by omega)
              have c1 := rs2.cell (o := i * 5 + 1) (by omega)
              have c2 := rs2.cell (o := i * 5 + 2) (by omega)
              have c3 := rs2.cell (o := i * 5 + 3) (by omega)
              have c4 := rs2.cell (o := i * 5 + 4) (by omega)
              rw [show scell S (i * 5) = .int .i64 (M1.up S i).id from scell_at S i 0 (by omega), hu.out] at c0
              rw [show scell S (i * 5 + 1) = .int .i64 (M1.up S i).pa from scell_at S i 1 (by omega), hu.out] at c1
              rw [show scell S (i * 5 + 2) = .string (M1.up S i).s from scell_at S i 2 (by omega), hu.out] at c2
              rw [show scell S (i * 5 + 3) = .int .i64 (M1.up S i).st from scell_at S i 3 (by omega), hu.out] at c3
              rw [show scell S (i * 5 + 4) = .int .i64 (M1.up S i).en from scell_at S i 4 (by omega), hu.out] at c4
              have d0 := rf.cell (o := k * 6) (by omega)
              have d1 := rf.cell (o := k * 6 + 1) (by omega)
              have d2 := rf.cell (o := k * 6 + 2) (by omega)
              have d3 := rf.cell (o := k * 6 + 3) (by omega)
              have d4 := rf.cell (o := k * 6 + 4) (by omega)
              rw [show ncell O (k * 6) = .int .i64 (nd O k).1.id from ncell_at O k 0 (by omega)] at d0
              rw [show ncell O (k * 6 + 1) = .int .i64 (nd O k).1.pa from ncell_at O k 1 (by omega)] at d1
              rw [show ncell O (k * 6 + 2) = .string (nd O k).1.s from ncell_at O k 2 (by omega)] at d2
              rw [show ncell O (k * 6 + 3) = .int .i64 (nd O k).1.st from ncell_at O k 3 (by omega)] at d3
              rw [show ncell O (k * 6 + 4) = .int .i64 (nd O k).1.en from ncell_at O k 4 (by omega)] at d4
              have hsq := HPL.out k (by rw [hq.out]; exact hkl)
              obtain ⟨x, hx⟩ : ∃ x, Hid ((nd O k).1 = x) := ⟨_, rfl⟩
              rw [hx.out] at d0 d1 d2 d3 d4 hsq
              by_cases hkp : k = p
              · rw [decide_eq_true hkp] at hsq
                have e1 : (if p < k then (1 : Int) else 0) = 0 := if_neg (by omega)
                have e2 : Hid ((if p < k + 1 then (1 : Int) else 0) = 1) := (if_pos (by omega) : _ = _)
                clear hkp
                rw [e1]
                clear e1
                go_wp2_with fail
                go_quiet (fail)
                go_wp2_with fail
                exact ⟨⟨k + 1, by omega, by go_num, by rw [e2.out], bel_drewN hBo _⟩, by simp [intOf]; omega⟩
              · rw [decide_eq_false hkp] at hsq
                have e2 : Hid ((if p < k + 1 then (1 : Int) else 0) = if p < k then 1 else 0) := (by by_cases c : p < k; rw [if_pos c, if_pos (by omega)]; rw [if_neg c, if_neg (by omega)] : _ = _)
                clear hkp
                obtain ⟨z, hz⟩ : ∃ z : Int, Hid ((if p < k then (1 : Int) else 0) = z) := ⟨_, rfl⟩
                rw [hz.out] at e2 ⊢
                go_wp2_with fail
                go_quiet (fail)
                go_wp2_with fail
                exact ⟨⟨k + 1, by omega, by go_num, by rw [e2.out], bel_drewN hBo _⟩, by simp [intOf]; omega⟩
            · have e1 : (if p < k then (1 : Int) else 0) = 1 := if_pos (by omega)
              rw [e1]
              clear e1
              have hB2 := hB.trans (hBo.mono hB.size)
              go_wp2_with fail
              exact ⟨⟨i + 1, by omega, by go_num, hB2⟩, by simp [intOf]; omega⟩
        · have B7 := B6.trans (hB.mono B6.size)
          have F7 := F6.below hB
          have S7 := S6.below hB
          clear B6 F6 S6 hB
          go_wp2_with fail
          obtain ⟨W7, hW7⟩ : ∃ W, W = wr := ⟨_, rfl⟩
          subst hW7
          go_loopw [10] (fun kv wr => ∃ k : Nat, k ≤ m ∧ kv = .int .i64 k ∧ Below W7.heap.size W7 wr) (fun kv _ => m - (intOf kv).toNat)
          case atStart => exact ⟨0, Nat.zero_le _, rfl, Below.refl _ _⟩
          case round =>
            obtain ⟨k, hk, rfl, hB⟩ := hrel
            by_cases hlt : k < m
            · have Fr := F7.below hB
              rcases Fr.2.2 with ⟨h0, _⟩ | ⟨gf, rfl, _, _, rf⟩
              · omega
              have hgf := rf.lt
              have k0 : (0 : Int) ≤ (k : Int) := by omega
              have k1 : (k : Int) < (m : Int) := by omega
              have hkO : k < O.length := by rw [hq.out]; exact hlt
              have d1 := rf.cell (o := k * 6 + 1) (by omega)
              have d5 := rf.cell (o := k * 6 + 5) (by omega)
              rw [show ncell O (k * 6 + 1) = .int .i64 (nd O k).1.pa from ncell_at O k 1 (by omega)] at d1
              rw [show ncell O (k * 6 + 5) = .int .i64 (nd O k).2 from ncell_at O k 5 (by omega)] at d5
              by_cases hd0 : (nd O k).2 = 0
              · have hdb : ((nd O k).2 == 0) = true := by simp [hd0]
                obtain ⟨D, hD⟩ : ∃ D, Hid ((nd O k).2 = D) := ⟨_, rfl⟩
                rw [hD.out] at d5 hdb
                clear hd0 hkO
                go_wp2_with fail
                exact ⟨⟨k + 1, by omega, by go_num, hB⟩, by simp [intOf]; omega⟩
              · obtain ⟨a, ha, ha1, ha2, ha3⟩ := for_und hO.out hkO hd0
                have hdb : ((nd O k).2 == 0) = false := by simp [hd0]
                have hDr : Hid (-1000000 ≤ (nd O k).2 ∧ (nd O k).2 ≤ 1000000) := (by
                  have h1 := M1.ord_forest S
                  rw [hO.out] at h1
                  have h2 := M1.pth_room h1 (nd_some hkO)
                  have h3 := M1.pth_le O k
                  have h4 := (h1 k _ (nd_some hkO)).1
                  omega : _ ∧ _)
                obtain ⟨D, hD⟩ : ∃ D, Hid ((nd O k).2 = D) := ⟨_, rfl⟩
                obtain ⟨pk, hpk⟩ : ∃ x, Hid ((nd O k).1.pa = x) := ⟨_, rfl⟩
                rw [hD.out] at d5 hdb ha1 hDr
                rw [hpk.out] at d1 ha2
                have HA1 : Hid ((nd O a).2 = D - 1) := ha1
                have HA2 : Hid ((nd O a).1.id = pk) := ha2
                have HA3 : Hid (∀ j, a < j → j < k → D ≤ (nd O j).2) := fun j h1 h2 => by rw [← hD.out]; exact ha3 j h1 h2
                have hD1 := hDr.out.1
                have hD2 := hDr.out.2
                clear ha1 ha2 ha3 hd0 hDr
                go_wp2_with fail
                obtain ⟨Wo, hWo⟩ : ∃ W, W = wr := ⟨_, rfl⟩
                subst hWo
                go_loopw [11] (fun jv wr => ∃ j : Nat, a ≤ j ∧ j < k ∧ jv = .int .i64 j ∧ Below Wo.heap.size Wo wr) (fun jv _ => (intOf jv).toNat)
                case atStart => exact ⟨k - 1, by omega, by omega, by go_num, Below.refl _ _⟩
                case round =>
                  obtain ⟨j, hj1, hj2, rfl, hBo⟩ := hrel
                  have r2 := rf.below hBo
                  have hgf2 := r2.lt
                  have e1 := r2.cell (o := k * 6 + 1) (by omega)
                  have e5 := r2.cell (o := k * 6 + 5) (by omega)
                  rw [show ncell O (k * 6 + 1) = .int .i64 (nd O k).1.pa from ncell_at O k 1 (by omega), hpk.out] at e1
                  rw [show ncell O (k * 6 + 5) = .int .i64 (nd O k).2 from ncell_at O k 5 (by omega), hD.out] at e5
                  have f0 := r2.cell (o := j * 6) (by omega)
                  have f5 := r2.cell (o := j * 6 + 5) (by omega)
                  rw [show ncell O (j * 6) = .int .i64 (nd O j).1.id from ncell_at O j 0 (by omega)] at f0
                  rw [show ncell O (j * 6 + 5) = .int .i64 (nd O j).2 from ncell_at O j 5 (by omega)] at f5
                  have j0 : (0 : Int) ≤ (j : Int) := by omega
                  have j1 : (j : Int) < (m : Int) := by omega
                  have jb : decide ((j : Int) ≥ 0) = true := by simp
                  have jc : decide ((j : Int) < 0) = false := by simp
                  by_cases hja : j = a
                  · subst hja
                    rw [HA2.out] at f0
                    rw [HA1.out] at f5
                    have hb3 : decide (D - 1 ≥ D) = false := by simp; omega
                    have hB2 := hB.trans (hBo.mono hB.size)
                    go_wp2_with fail
                    go_quiet (fail)
                    go_wp2_with fail
                    go_quiet (fail)
                    go_wp2_with fail
                    exact ⟨⟨k + 1, by omega, by go_num, bel_drewN hB2 _⟩, by simp [intOf]; omega⟩
                  · have hge := HA3.out j (by omega) hj2
                    obtain ⟨E, hE⟩ : ∃ E, Hid ((nd O j).2 = E) := ⟨_, rfl⟩
                    rw [hE.out] at f5 hge
                    have hb3 : decide (E ≥ D) = true := by simpa using hge
                    have hja2 : a < j := by omega
                    clear hja
                    go_wp2_with fail
                    go_quiet (fail)
                    go_wp2_with fail
                    exact ⟨⟨j - 1, by omega, by omega, by go_num, bel_drewN hBo _⟩, by simp [intOf]; omega⟩
            · have B8 := B7.trans (hB.mono B7.size)
              have F8 := F7.below hB
              have S8 := S7.below hB
              clear B7 F7 S7 hB
              go_wp2_with fail
              clear hlt hk
              obtain ⟨W8, hW8⟩ : ∃ W, W = wr := ⟨_, rfl⟩
              subst hW8
              go_loopw [12] (fun kv wr => ∃ k : Nat, k ≤ m ∧ kv = .int .i64 k ∧ Below W8.heap.size W8 wr) (fun kv _ => m - (intOf kv).toNat)
              case atStart => exact ⟨0, Nat.zero_le _, rfl, Below.refl _ _⟩
              case round =>
                obtain ⟨k, hk, rfl, hB⟩ := hrel
                by_cases hlt : k < m
                · have Fr := F8.below hB
                  rcases Fr.2.2 with ⟨h0, _⟩ | ⟨gf, rfl, _, _, rf⟩
                  · omega
                  have k0 : (0 : Int) ≤ (k : Int) := by omega
                  have k1 : (k : Int) < (m : Int) := by omega
                  have hkO : k < O.length := by rw [hq.out]; exact hlt
                  have HPA : Hid (¬ (nd O k).2 = 0 → ∃ j, j < S.length ∧ (M1.up S j).id = (nd O k).1.pa) := fun hd => for_parent HSO.out hO.out hkO hd
                  obtain ⟨D, hD⟩ : ∃ D, Hid ((nd O k).2 = D) := ⟨_, rfl⟩
                  obtain ⟨pk, hpk⟩ : ∃ x, Hid ((nd O k).1.pa = x) := ⟨_, rfl⟩
                  rw [hD.out, hpk.out, hm.out] at HPA
                  clear hkO
                  go_wp2_with fail
                  obtain ⟨Wo, hWo⟩ : ∃ W, W = wr := ⟨_, rfl⟩
                  subst hWo
                  go_loopw [13, 14] (fun bv iv wr => ∃ (i : Nat) (b : Bool), i ≤ m ∧ iv = .int .i64 i ∧ bv = .bool b ∧ Hid (b = true ↔ ∃ j, j < i ∧ (M1.up S j).id = pk) ∧ Below Wo.heap.size Wo wr) (fun _ iv _ => m - (intOf iv).toNat)
                  case atStart => exact ⟨0, false, Nat.zero_le _, rfl, rfl, (by simp : _ ↔ _), Below.refl _ _⟩
                  case round =>
                    obtain ⟨i, b, hi, rfl, rfl, hb, hBo⟩ := hrel
                    have r2 := rf.below hBo
                    have hgf2 := r2.lt
                    have e1 := r2.cell (o := k * 6 + 1) (by omega)
                    have e5 := r2.cell (o := k * 6 + 5) (by omega)
                    rw [show ncell O (k * 6 + 1) = .int .i64 (nd O k).1.pa from ncell_at O k 1 (by omega), hpk.out] at e1
                    rw [show ncell O (k * 6 + 5) = .int .i64 (nd O k).2 from ncell_at O k 5 (by omega), hD.out] at e5
                    by_cases hil : i < m
                    · have Sr := (S8.below hB).below hBo
                      rcases Sr.2.2 with ⟨h0, _⟩ | ⟨gs, rfl, _, _, rs⟩
                      · omega
                      have hgs := rs.lt
                      have i0 : (0 : Int) ≤ (i : Int) := by omega
                      have i1 : (i : Int) < (m : Int) := by omega
                      have c0 := rs.cell (o := i * 5) (by omega)
                      rw [show scell S (i * 5) = .int .i64 (M1.up S i).id from scell_at S i 0 (by omega)] at c0
                      cases b with
                      | true =>
                        have HEX : Hid (∃ j, j < i + 1 ∧ (M1.up S j).id = pk) := (by
                          obtain ⟨j, h1, h2⟩ := hb.out.1 rfl
                          exact ⟨j, by omega, h2⟩ : ∃ j, _)
                        clear hb
                        go_wp2_with fail
                        go_quiet (fail)
                        go_wp2_with fail
                        exact ⟨⟨i + 1, true, by omega, by go_num, rfl, (⟨fun _ => HEX.out, fun _ => rfl⟩ : _ ↔ _), bel_drewN hBo _⟩, by simp [intOf]; omega⟩
                      | false =>
                        obtain ⟨x, hx⟩ : ∃ x, Hid ((M1.up S i).id = x) := ⟨_, rfl⟩
                        rw [hx.out] at c0
                        have hb' : Hid ((x == pk) = true ↔ ∃ j, j < i + 1 ∧ (M1.up S j).id = pk) := (by
                          constructor
                          · intro h
                            exact ⟨i, by omega, by rw [hx.out]; simpa using h⟩
                          · rintro ⟨j, h1, h2⟩
                            by_cases c : j = i
                            · rw [c, hx.out] at h2; simp [h2]
                            · exact absurd (hb.out.2 ⟨j, by omega, h2⟩) (by simp) : _ ↔ _)
                        go_wp2_with fail
                        go_quiet (fail)
                        go_wp2_with fail
                        exact ⟨⟨i + 1, (x == pk), by omega, by go_num, rfl, hb', bel_drewN hBo _⟩, by simp [intOf]; omega⟩
                    · have him : i = m := by omega
                      have hfin : Hid (b = true ∨ D = 0) := (by
                        by_cases c : D = 0
                        · exact Or.inr c
                        · left
                          rw [him] at hb
                          exact hb.out.2 (HPA.out c) : _ ∨ _)
                      have hB2 := hB.trans (hBo.mono hB.size)
                      clear him
                      cases b with
                      | true =>
                        go_wp2_with fail
                        exact ⟨⟨k + 1, by omega, by go_num, hB2⟩, by simp [intOf]; omega⟩
                      | false =>
                        have hD0 : D = 0 := by rcases hfin.out with h | h; cases h; exact h
                        rw [hD0] at e5
                        clear hD0
                        go_wp2_with fail
                        exact ⟨⟨k + 1, by omega, by go_num, hB2⟩, by simp [intOf]; omega⟩
                · have B9 := B8.trans (hB.mono B8.size)
                  go_wp2_with fail
                  go_ret
                  exact ⟨by simp, B9⟩

theorem own : ownKnob Try.prog.godebug = none := by kernel_rfl
theorem laidOut : laidOutB Try.prog = true := by kernel_rfl
set_option maxRecDepth 100000 in
theorem lifted (os : Os) (started : os.Started) (H : Type) (enc : TypeId × Value → H) :
    ReturnsInHanded {} Try.checked os 3 .any (Rows.fnForestSpec.pre6 enc Try.prog Try.f3 Rows.fnForestRow.domain false) (Rows.fnForestSpec.post enc Try.prog Try.f3 false true false false) := by
  refine returnsInHanded_of_change (C := Try.checked) own started (by kernel_rfl) Try.func3
    (ChangeSpec.witness6 (enc := enc) (C := Try.checked) false ⟨#[], #[.slice none 0 0], []⟩ 8 (by kernel_rfl) (by kernel_rfl) (by kernel_rfl) (by kernel_rfl)) ?_
  intro W base args ds gs before hval0 hW hcnd _
  have hval : ∀ (j : Nat) t v, Try.f3.params[j]? = some t → args[j]? = some v → Value.okWide Try.prog W .any base t v := hval0
  have hW' := hW
  obtain ⟨p, q, hA0, hV, rfl, hfz, hnd⟩ := hW
  have hA : DataW.TrodAll enc Try.prog W 0 (fun _ => true) true Try.f3.params.toList args.toList ds p := hA0
  rw [Try.params3] at hA hval
  obtain ⟨v0, vs0, d0, ds0, p0, q0, hargs, rfl, rfl, h0, r0⟩ := trodAll_cons hA
  obtain ⟨rfl, rfl, rfl⟩ := trodAll_nil r0
  obtain rfl : args = #[v0] := by cases args; simp_all
  obtain ⟨rfl, rfl⟩ := trodVars_none hV
  have k0 := h0
  have lt0 : ∀ x ∈ p0, x.block < W.heap.size := by obtain ⟨m, hm⟩ := k0; exact DataW.trod_lt m _ _ _ hm
  obtain ⟨a0, l0, c0, rfl⟩ := okWide_slice Try.underlying22 (hval 0 22 v0 rfl rfl)
  obtain ⟨fu0, hf0⟩ := h0
  have by0 := open_bytes hf0
  clear hA0 hval0
  refine (walk a0 l0 c0 W by0).mono fun e W' ⟨he, bel⟩ => ?_
  subst he
  exact ⟨_, rfl, _, _, _, [], _, [], hW', trodAll_mk1 (shut_bool Try.underlying4 _), (trodAll_cons_mk (Below.trod laidOut (by kernel_rfl) (of_decide_eq_true (by kernel_rfl)) k0 bel lt0) trodAll_mk0), rfl, bel.frame _, fun h => by cases h⟩

theorem over : Rows.fnForestRow.holds Try.pinned (OpenSpec.ofChange Rows.fnForestSpec) :=
  OpenClaim.holds_of_wide 3 Try.f3 rfl rfl rfl rfl rfl rfl rfl ⟨rfl, rfl, rfl, rfl, rfl⟩ rfl rfl rfl rfl rfl (by kernel_rfl) Try.func3 (by kernel_rfl)
    (of_decide_eq_true (by kernel_rfl)) (by unfold Func.isWrapper; first | (rw [if_pos (by decide +kernel)]; kernel_rfl) | (rw [if_neg (by decide +kernel)]; exact ⟨rfl, rfl⟩))
    (fun os started H enc _ => lifted os started H enc)

theorem proved : Rows.FnForestSaid := over
end Go.Proofs.Ytdpeopmbboogaaa.fnForest
namespace Go.Proofs.Ytdpeopmbboogaaa
theorem fnForest_holds : Rows.FnForestSaid := fnForest.proved
end Go.Proofs.Ytdpeopmbboogaaa
