/-
  Texts of one proof, joined: Wk4.
-/
import Derived.Test.YtgcinolbkllkkaaGreatZXWorldOk35
import Derived.Test.YtgcinolbkllkkaaGreatZXWorldOk41
import Derived.Test.YtgcinolbkllkkaaGreatZXWorldOk42
namespace Go.Proofs.YtgcinolbkllkkaaGreat
open Go.ChangeShapes Go.WideShapes Go.ChangeAt Go.RowKit
set_option linter.unusedSimpArgs false
set_option linter.unusedVariables false
def UniO (w' : World) (e : Ending) : Option (List M1.Upd) → Prop
  | none => e = .returned (.tuple #[.slice none 0 0, .bool false])
  | some l => ∃ v c, e = .returned (.tuple #[.slice v l.length c, .bool true]) ∧ IsUpds w' v l.length c l

theorem short_set4 {us : List M1.Upd} (h : M1.setOk us = true) : ∀ i, i < us.length → (M1.up us i).s.size ≤ maxLen := fun i hi => by
  have := M1.ok_txt (M1.okAt_ok (M1.setOk_all h i hi))
  unfold maxLen; omega

set_option maxHeartbeats 8000000 in
set_option maxRecDepth 100000 in
theorem l6Union_any (now : Int) (av : Option Addr) (n cn : Nat) (rs : List M1.Rg) (x2 : Value) (w : World) (h1 : IsRgs w av n cn rs) :
    Calls Tryz.prog 29 #[.agg #[.int .i64 now, .slice av n cn, x2]] w fun e w' => UniO w' e (M1.uni rs n) ∧ Below w.heap.size w w' := by
  have hm1 := h1.hcap
  have hm2 := h1.hmost
  unfold maxLen at hm2
  have hA : Below w.heap.size w (w.alloc (.cells #[.int .i64 now, .slice av n cn, x2] 27)) := (Below.refl _ _).alloc (Nat.le_refl _) _
  have P := r3_new w (.int .i64 now) (.slice av n cn) x2 27
  go_enter Tryz.func29, Tryz.ntmps29
  go_upto_region 1 with fail
  obtain ⟨W0, hW0⟩ : ∃ W, w.alloc (.cells #[.int .i64 now, .slice av n cn, x2] 27) = W := ⟨_, rfl⟩
  rw [hW0] at hA P ⊢
  clear hW0
  obtain ⟨p, hp⟩ : ∃ p, Hid (w.heap.size = p) := ⟨_, rfl⟩
  rw [hp.out] at P ⊢
  have hA1 : Below W0.heap.size W0 (W0.alloc (.cells #[] 72)) := (Below.refl _ _).alloc (Nat.le_refl _) _
  go_upto_region 2 with fail
  obtain ⟨W1, hW1⟩ : ∃ W, W0.alloc (.cells #[] 72) = W := ⟨_, rfl⟩
  rw [hW1] at hA1 ⊢
  clear hW1
  have B1 := hA.trans (hA1.mono hA.size)
  have P1 := RowAt.below P hA1
  have hbl : W0.heap.size ≤ W1.heap.size := hA1.size
  go_wp2_with fail
  go_loopw [4, 5] (fun a i wr => ∃ (k : Nat) (l : List M1.Upd) (m : Nat) (v : Option Addr) (c : Nat), k ≤ n ∧ i = .int .i64 k ∧ a = .slice v m c ∧ IsUpds wr v m c l ∧ Below W1.heap.size W1 wr ∧ Hid (M1.uni rs k = some l)) (fun _ i _ => n - (intOf i).toNat)
  case atStart => exact ⟨0, [], 0, _, 0, Nat.zero_le _, rfl, rfl, ⟨rfl, Nat.le_refl _, Nat.zero_le _, fun i hi => absurd hi (Nat.not_lt_zero _), Or.inl rfl⟩, Below.refl _ _, rfl⟩
  case round =>
    obtain ⟨k, l, m, v, c, hk, rfl, rfl, hl, hB, hall⟩ := hrel
    have B := B1.trans (hB.mono B1.size)
    have P2 := RowAt.below P1 hB
    obtain ⟨d0, d1, d2⟩ := r3_cells P2
    have pl := P2.lt
    by_cases hlt : k < n
    · have g1 := h1.below B
      rcases g1.hlies with h0 | ⟨b, off, rfl, hb, hc⟩
      · omega
      obtain ⟨v1, m1, n1, c0, c1, c2, c3, c4, hu⟩ := hc k hlt
      clear hc g1
      have i0 : (0 : Int) ≤ (k : Int) := by omega
      have i1 : (k : Int) < (n : Int) := by omega
      obtain ⟨r, hr⟩ : ∃ r, Hid (M1.rgA rs k = r) := ⟨_, rfl⟩
      rw [hr.out] at c0 c1 c2 c3 hu
      obtain ⟨z, hz⟩ : ∃ z, Hid (M1.jOk l r.us = z) := ⟨_, rfl⟩
      go_wp2_with fail
      refine (joined_spec _ _ _ _ _ _ l r.us _ hl hu).mono ?_
      rw [hz.out]
      rintro e w2 ⟨⟨v2, cap2, rfl, mu⟩, hb2⟩
      have hB2 := hB.trans (hb2.mono hB.size)
      have B2 := B1.trans (hB2.mono B1.size)
      cases z with
      | false =>
        have HN : Hid (M1.uni rs n = none) := M1.uni_fail (k := k + 1) (M1.uni_no hall.out (by rw [hr.out]; exact hz.out)) (by omega)
        go_wp2_with fail
        refine bodyPost_ret (v := .tuple #[.slice none 0 0, .bool false]) (by simp [results, Tryz.results29, go_sem]) rfl ⟨by rw [HN.out]; rfl, B2⟩
      | true =>
        have HU : Hid (M1.uni rs (k + 1) = some (M1.jL l r.us)) := (by have := M1.uni_yes hall.out (by rw [hr.out]; exact hz.out); rw [hr.out] at this; exact this : _ = _)
        have hs : Hid (M1.setOk (M1.jL l r.us) = true) := M1.uni_set HU.out
        have hl2 : IsUpds w2 v2 (M1.jL l r.us).length cap2 (M1.jL l r.us) := mu.upds rfl (short_set4 hs.out)
        go_wp2_with fail
        exact ⟨⟨k + 1, M1.jL l r.us, _, v2, cap2, by omega, by go_num, rfl, hl2, hB2, HU⟩, by simp [intOf]; omega⟩
    · have HU : Hid (M1.uni rs n = some l) := (by rw [show n = k by omega]; exact hall.out : _ = _)
      have hll : Hid (m = l.length) := hl.hlen.symm
      go_wp2_with fail
      refine bodyPost_ret (v := .tuple #[.slice v m c, .bool true]) (by simp [results, Tryz.results29, go_sem]) rfl ⟨by rw [HU.out]; exact ⟨v, c, by rw [hll.out], by rw [← hll.out]; exact hl⟩, B⟩

set_option maxHeartbeats 8000000 in
set_option maxRecDepth 100000 in
theorem l6Mail_any (now : Int) (w1 : Option Addr) (n cn : Nat) (x2 : Value) (m : M1.Ml) (v : Option Addr) (n1 c1 : Nat) (v2 : Option Addr) (n2 c2 : Nat) (v3 : Option Addr) (n3 c3 : Nat) (all : List M1.Upd) (w : World) (hv : IsVec w v n1 c1 m.vec) (hu : IsUpds w v2 n2 c2 m.del) (ha : IsUpds w v3 n3 c3 all) (hn : (n : Int) ≤ 9000000) :
    Calls Tryz.prog 31 #[.agg #[.int .i64 now, .slice w1 n cn, x2], .agg #[.int .i64 m.fr, .int .i64 m.tt, .bool m.ask, .slice v n1 c1, .slice v2 n2 c2], .slice v3 n3 c3] w fun e w' => e = .returned (.bool (M1.mailB n all m)) ∧ Below w.heap.size w w' := by
  have hm1 := hv.hcap
  have hm2 := hv.hmost
  have hm3 := hu.hcap
  have hm4 := hu.hmost
  unfold maxLen at hm2 hm4
  have hl1 : Hid (m.vec.length = n1) := hv.hlen
  have hl2 : Hid (m.del.length = n2) := hu.hlen
  have hA : Below w.heap.size w ((w.alloc (.cells #[.int .i64 now, .slice w1 n cn, x2] 27)).alloc (.cells #[.int .i64 m.fr, .int .i64 m.tt, .bool m.ask, .slice v n1 c1, .slice v2 n2 c2] 62)) := ((Below.refl _ _).alloc (Nat.le_refl _) _).alloc (by simp) _
  have P := (r3_new w (.int .i64 now) (.slice w1 n cn) x2 27).alloc (.cells #[.int .i64 m.fr, .int .i64 m.tt, .bool m.ask, .slice v n1 c1, .slice v2 n2 c2] 62)
  have Z := r5_new (w.alloc (.cells #[.int .i64 now, .slice w1 n cn, x2] 27)) (.int .i64 m.fr) (.int .i64 m.tt) (.bool m.ask) (.slice v n1 c1) (.slice v2 n2 c2) 62
  rw [show (w.alloc (.cells #[.int .i64 now, .slice w1 n cn, x2] 27)).heap.size = w.heap.size + 1 by simp] at Z
  go_enter Tryz.func31, Tryz.ntmps31
  go_upto_region 1 with fail
  obtain ⟨W0, hW0⟩ : ∃ W, (w.alloc (.cells #[.int .i64 now, .slice w1 n cn, x2] 27)).alloc (.cells #[.int .i64 m.fr, .int .i64 m.tt, .bool m.ask, .slice v n1 c1, .slice v2 n2 c2] 62) = W := ⟨_, rfl⟩
  rw [hW0] at hA P Z ⊢
  clear hW0
  obtain ⟨z, hz⟩ : ∃ z, Hid (w.heap.size + 1 = z) := ⟨_, rfl⟩
  obtain ⟨p, hp⟩ : ∃ p, Hid (w.heap.size = p) := ⟨_, rfl⟩
  rw [hz.out] at Z ⊢
  rw [hp.out] at P ⊢
  have hv0 := hv.below hA
  have hu0 := hu.below hA
  have ha0 := ha.below hA
  obtain ⟨d0, d1, d2⟩ := r3_cells P
  have pl := P.lt
  obtain ⟨e0, e1, e2, e3, e4⟩ := r5_cells Z
  have zl := Z.lt
  obtain ⟨ask, hask⟩ : ∃ ask, Hid (m.ask = ask) := ⟨_, rfl⟩
  obtain ⟨q1, hq1⟩ : ∃ q, Hid (M1.inB m.fr 1 n = q) := ⟨_, rfl⟩
  obtain ⟨q2, hq2⟩ : ∃ q, Hid (M1.inB m.tt 1 n = q) := ⟨_, rfl⟩
  obtain ⟨q3, hq3⟩ : ∃ q, Hid (M1.vecOk m.vec = q) := ⟨_, rfl⟩
  go_wp2_with fail
  refine (l1In_any _ _ _ _).mono ?_
  rw [hq1.out]
  rintro e wa ⟨rfl, hwa⟩
  obtain rfl := hwa.symm
  cases q1 with
  | false =>
    have HF : Hid (M1.mailB n all m = false) := (by unfold M1.mailB; rw [hq1.out]; rfl : _ = _)
    go_wp2_with fail
    go_ret
    exact ⟨by rw [HF.out]; rfl, hA⟩
  | true =>
  go_wp2_with fail
  refine (l1In_any _ _ _ _).mono ?_
  rw [hq2.out]
  rintro e wa ⟨rfl, hwa⟩
  obtain rfl := hwa.symm
  cases q2 with
  | false =>
    have HF : Hid (M1.mailB n all m = false) := (by unfold M1.mailB; rw [hq2.out]; simp : _ = _)
    go_wp2_with fail
    go_ret
    exact ⟨by rw [HF.out]; rfl, hA⟩
  | true =>
  by_cases hft : m.fr = m.tt
  · have HF : Hid (M1.mailB n all m = false) := (by unfold M1.mailB; rw [hft]; simp : _ = _)
    go_wp2_with fail
    go_ret
    exact ⟨by rw [HF.out]; rfl, hA⟩
  have HM : Hid (M1.mailB n all m = (if m.ask = true then M1.vecOk m.vec && decide (m.del.length = 0) else decide (m.vec.length = 0) && (decide (1 ≤ m.del.length ∧ m.del.length ≤ 3) && M1.allIn m.del all))) := (by unfold M1.mailB; rw [hq1.out, hq2.out]; simp [hft] : _ = _)
  have hbne : (m.fr == m.tt) = false := by simp [hft]
  go_wp2_with fail
  refine (vecOk_spec _ _ _ _ _ hv0).mono ?_
  rw [hq3.out]
  rintro e wb ⟨rfl, hb1⟩
  have B1 := hA.trans (hb1.mono hA.size)
  have Z1 := RowAt.below Z hb1
  clear e0 e1 e2 e3 e4 zl d0 d1 d2 pl
  obtain ⟨e0, e1, e2, e3, e4⟩ := r5_cells Z1
  have zl := Z1.lt
  have hu1 := hu0.below hb1
  have ha1 := ha0.below hb1
  cases q3 with
  | false =>
    have HF : Hid (M1.mailB n all m = false) := (by
      rw [HM.out, hq3.out]
      cases ask with
      | true => rw [hask.out]; rfl
      | false =>
        rw [hask.out]
        have : ¬ m.vec.length = 0 := fun h => by
          have h2 := hq3.out
          rw [List.length_eq_zero_iff.1 h] at h2
          revert h2; decide
        simp [this] : _ = _)
    go_wp2_with fail
    go_ret
    exact ⟨by rw [HF.out]; rfl, B1⟩
  | true =>
  by_cases h3 : n2 ≤ 3
  · have hng : ¬ (3 : Int) < (n2 : Int) := by omega
    have hng2 : ¬ 3 < n2 := by omega
    rw [hask.out] at e2
    cases ask with
    | true =>
      by_cases h0 : n2 = 0
      · have HF : Hid (M1.mailB n all m = true) := (by rw [HM.out, hask.out, hq3.out, hl2.out, h0]; rfl : _ = _)
        go_wp2_with fail
        go_ret
        exact ⟨by rw [HF.out]; simp [h0], B1⟩
      · have HF : Hid (M1.mailB n all m = false) := (by rw [HM.out, hask.out, hq3.out, hl2.out]; simp [h0] : _ = _)
        go_wp2_with fail
        go_ret
        exact ⟨by rw [HF.out]; simp [h0], B1⟩
    | false =>
      by_cases h0 : n1 = 0
      · by_cases h1 : n2 = 0
        · have HF : Hid (M1.mailB n all m = false) := (by rw [HM.out, hask.out, hl2.out, h1]; simp : _ = _)
          have k0 : ((n1 : Int) == 0) = true := by simp [h0]
          have k1 : ¬ (0 : Int) < (n2 : Int) := by omega
          have k2 : ¬ 0 < n2 := by omega
          go_wp2_with fail
          go_ret
          exact ⟨by rw [HF.out]; rfl, B1⟩
        · obtain ⟨q, hq⟩ : ∃ q, Hid (M1.allIn m.del all = q) := ⟨_, rfl⟩
          have HF : Hid (M1.mailB n all m = q) := (by rw [HM.out, hask.out, hl1.out, hl2.out, hq.out]; have : 1 ≤ n2 ∧ n2 ≤ 3 := by omega
                                                      simp [this, h0] : _ = _)
          have k0 : ((n1 : Int) == 0) = true := by simp [h0]
          have k1 : (0 : Int) < (n2 : Int) := by omega
          have k2 : 0 < n2 := by omega
          go_wp2_with fail
          refine (l6In_any _ _ _ _ _ _ m.del all _ hu1 ha1).mono ?_
          rw [hq.out]
          rintro e wc ⟨rfl, hb2⟩
          have B2 := B1.trans (hb2.mono B1.size)
          go_wp2_with fail
          go_ret
          exact ⟨by rw [HF.out]; rfl, B2⟩
      · have HF : Hid (M1.mailB n all m = false) := (by rw [HM.out, hask.out, hl1.out]; simp [h0] : _ = _)
        have k0 : ((n1 : Int) == 0) = false := by simp [h0]
        have k1 : ¬ (n1 : Int) = 0 := by omega
        go_wp2_with fail
        go_ret
        exact ⟨by rw [HF.out]; rfl, B1⟩
  · have hgt : (3 : Int) < (n2 : Int) := by omega
    have hgt2 : 3 < n2 := by omega
    have HF : Hid (M1.mailB n all m = false) := (by
      rw [HM.out, hl2.out]
      cases ask with
      | true => rw [hask.out, hq3.out]; simp; omega
      | false => rw [hask.out]; have : ¬ (1 ≤ n2 ∧ n2 ≤ 3) := by omega
                 simp [this] : _ = _)
    go_wp2_with fail
    go_ret
    exact ⟨by rw [HF.out]; rfl, B1⟩

end Go.Proofs.YtgcinolbkllkkaaGreat
