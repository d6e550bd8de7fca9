/-
  The contracts of both sides' Found.
-/
import Derived.Test.YtpflbhjgnmkajaaGreatZFound48
namespace Go.Proofs.YtpflbhjgnmkajaaGreat
open Go.ChangeShapes Go.WideShapes Go.ChangeAt Go.RowKit
set_option linter.unusedSimpArgs false
set_option linter.unusedVariables false

set_option maxHeartbeats 8000000 in
set_option maxRecDepth 100000 in
theorem found_impl (av : Option Addr) (n cn : Nat) (us : List M1.Upd) (sv : ByteArray) (fr tt : Int) (w : World) (h1 : IsUpds w av n cn us) :
    Calls Tryz.prog 6 #[.slice av n cn, .string sv, .int .i64 fr, .int .i64 tt] w fun e w' => TrW w w' e (M1.fnd us sv fr tt) ∧ Below w.heap.size w w' := by
  obtain ⟨b1, hb1⟩ : ∃ b, Hid (M1.inB fr 0 1000000000 = b) := ⟨_, rfl⟩
  obtain ⟨b2, hb2⟩ : ∃ b, Hid (M1.inB tt 0 1000000000 = b) := ⟨_, rfl⟩
  obtain ⟨b3, hb3⟩ : ∃ b, Hid (decide (fr ≤ tt) = b) := ⟨_, rfl⟩
  have HW : Hid (M1.winB fr tt = ((b1 && b2) && b3)) := (by unfold M1.winB; rw [hb1.out, hb2.out, hb3.out] : _ = _)
  have HNO : Hid (((b1 && b2) && b3) = false → M1.fnd us sv fr tt = []) := fun h => by unfold M1.fnd; rw [HW.out, h]; rfl
  have hq3 : decide (tt < fr) = !b3 := by rw [← hb3.out, ← decide_not]; exact decide_eq_decide.2 (by omega)
  have bx0 := ((Boxed.new w 9 (.string sv)).alloc (.cells #[.int .i64 fr] 2)).alloc (.cells #[.int .i64 tt] 2)
  have bx1 := (Boxed.new (w.alloc (.cells #[.string sv] 9)) 2 (.int .i64 fr)).alloc (.cells #[.int .i64 tt] 2)
  have bx2 := Boxed.new ((w.alloc (.cells #[.string sv] 9)).alloc (.cells #[.int .i64 fr] 2)) 2 (.int .i64 tt)
  simp only [World.size_alloc] at bx1 bx2
  have hB0 : Below w.heap.size w (((w.alloc (.cells #[.string sv] 9)).alloc (.cells #[.int .i64 fr] 2)).alloc (.cells #[.int .i64 tt] 2)) := (((Below.refl _ _).alloc (Nat.le_refl _) _).alloc (by simp) _).alloc (by simp; omega) _
  have hH : Held3 (((w.alloc (.cells #[.string sv] 9)).alloc (.cells #[.int .i64 fr] 2)).alloc (.cells #[.int .i64 tt] 2)) w.heap.size sv fr tt := ⟨bx0.cell, bx1.cell, bx2.cell, by simp⟩
  clear bx0 bx1 bx2
  go_enter Tryz.func6, Tryz.ntmps6
  go_wp2_with fail
  generalize (((w.alloc (.cells #[.string sv] 9)).alloc (.cells #[.int .i64 fr] 2)).alloc (.cells #[.int .i64 tt] 2)) = W0 at hB0 hH ⊢
  obtain ⟨c0, c1, c2, hlt0⟩ := hH
  have hH : Held3 W0 w.heap.size sv fr tt := ⟨c0, c1, c2, hlt0⟩
  refine (timeOk_any _ _).mono ?_
  rw [hb1.out]
  rintro e w1 ⟨rfl, rfl⟩
  cases b1 with
  | false =>
    have HT := HNO.out (by simp)
    go_wp2_with fail
    go_ret
    exact ⟨⟨none, 0, by rw [HT]; rfl, by rw [HT]; exact ⟨Nat.le_refl _, by unfold maxLen; omega, Or.inl ⟨rfl, rfl⟩⟩⟩, hB0⟩
  | true =>
    go_wp2_with fail
    refine (timeOk_any _ _).mono ?_
    rw [hb2.out]
    rintro e w2 ⟨rfl, rfl⟩
    cases b2 with
    | false =>
      have HT := HNO.out (by simp)
      go_wp2_with fail
      go_ret
      exact ⟨⟨none, 0, by rw [HT]; rfl, by rw [HT]; exact ⟨Nat.le_refl _, by unfold maxLen; omega, Or.inl ⟨rfl, rfl⟩⟩⟩, hB0⟩
    | true =>
      cases b3 with
      | false =>
        have HT := HNO.out (by simp)
        go_wp2_with fail
        go_ret
        exact ⟨⟨none, 0, by rw [HT]; rfl, by rw [HT]; exact ⟨Nat.le_refl _, by unfold maxLen; omega, Or.inl ⟨rfl, rfl⟩⟩⟩, hB0⟩
      | true =>
        have HF : Hid (M1.fnd us sv fr tt = (M1.trs us).filter (M1.hitB us sv fr tt)) := (by unfold M1.fnd; rw [HW.out]; rfl : _ = _)
        obtain ⟨m, hm⟩ : ∃ m, Hid ((M1.trs us).length = m) := ⟨_, rfl⟩
        have hm60 : m ≤ 60 := by have := M1.trs_len60 us; rw [hm.out] at this; exact this
        have hs0 := hB0.size
        go_wp2_with fail
        have c3 := tracesOf_impl _ _ _ _ _ (h1.below hB0)
        refine c3.mono ?_
        clear c3
        rintro e w3 ⟨⟨aT, cT, rfl, T3⟩, hb3'⟩
        rw [hm.out] at T3 ⊢
        have hB3 := hB0.trans (hb3'.mono hB0.size)
        have hH3 := hH.below hb3'
        have u3 := h1.below hB3
        have hcm := T3.2.1
        have hcn := T3.1
        unfold maxLen at hcm
        have hs3 := hb3'.size
        clear c0 c1 c2 hH hb3'
        go_wp2_with fail
        go_loopw [10, 30] (fun v i wr => ∃ (k : Nat) (a : Option Addr) (c q : Nat), k ≤ m ∧ i = .int .i64 k ∧ v = .slice a q c ∧ Hid ((M1.fndTo us sv fr tt k).length = q) ∧ q ≤ k ∧ wr.ownsRow w3.heap.size 2 1 (.slice a q c) q (iL (M1.fndTo us sv fr tt k)) ∧ Below w3.heap.size w3 wr) (fun _ i _ => m - (intOf i).toNat)
        case atStart => exact ⟨0, none, 0, 0, Nat.zero_le _, rfl, rfl, (rfl : (M1.fndTo us sv fr tt 0).length = 0), Nat.le_refl _, ⟨rfl, Or.inl ⟨rfl, rfl⟩⟩, Below.refl _ _⟩
        case round =>
          obtain ⟨k, a, c, q, hk, rfl, rfl, hrq, hqk, hown, hB⟩ := hrel
          have hsz := hB.size
          by_cases hlt : k < m
          · have T4 := T3.below hB
            rcases T4.2.2 with ⟨h0, _⟩ | ⟨g, rfl, _, _, rT⟩
            · omega
            have hgl := rT.lt
            have i0 : (0 : Int) ≤ (k : Int) := by omega
            have i1 : (k : Int) < (m : Int) := by omega
            obtain ⟨t, ht⟩ : ∃ t, Hid ((M1.trs us).getD k 0 = t) := ⟨_, rfl⟩
            have d0 := rowI_at rT hlt
            rw [ht.out] at d0
            have HST : Hid (M1.fndTo us sv fr tt (k + 1) = if M1.hitB us sv fr tt t = true then M1.fndTo us sv fr tt k ++ [t] else M1.fndTo us sv fr tt k) := (by rw [← ht.out]; exact M1.fndTo_step (by rw [hm.out]; exact hlt) : _ = _)
            obtain ⟨vb, hvb⟩ : ∃ b, Hid (M1.visB us t = b) := ⟨_, rfl⟩
            have u4 := u3.below hB
            have hH4 := hH3.below hB
            go_wp2_with fail
            have c5 := visible_impl _ _ _ _ t _ u4
            rw [hvb.out] at c5
            refine c5.mono ?_
            clear c5
            rintro e w5 ⟨rfl, hb5⟩
            have hB5 := hB.trans (hb5.mono hB.size)
            have own5 := owns_below hown hb5
            have hs5 := hb5.size
            cases vb with
            | false =>
              have HE : Hid (M1.fndTo us sv fr tt (k + 1) = M1.fndTo us sv fr tt k) := (by rw [HST.out, if_neg (by unfold M1.hitB; rw [hvb.out]; simp)] : _ = _)
              go_wp2_with fail
              exact ⟨⟨k + 1, a, c, q, by omega, by go_num, rfl, (by rw [HE.out]; exact hrq.out : (M1.fndTo us sv fr tt (k + 1)).length = q), by omega, by rw [HE.out]; exact own5, hB5⟩, by simp [intOf]; omega⟩
            | true =>
              obtain ⟨S, hS⟩ : ∃ S, Hid (M1.sps us t = S) := ⟨_, rfl⟩
              obtain ⟨p, hp⟩ : ∃ p, Hid (S.length = p) := ⟨_, rfl⟩
              obtain ⟨ab, hab⟩ : ∃ b, Hid (S.any (M1.askB sv fr tt) = b) := ⟨_, rfl⟩
              have HHI : Hid (M1.hitB us sv fr tt t = ab) := (by unfold M1.hitB; rw [hvb.out, hS.out, hab.out]; rfl : _ = _)
              go_wp2_with fail
              have c6 := spansOf_impl _ _ _ _ t _ (u4.below hb5)
              rw [hS.out] at c6
              refine c6.mono ?_
              clear c6
              rintro e w6 ⟨⟨aS, cS, rfl, S6⟩, hb6⟩
              rw [hp.out] at S6 ⊢
              have hB6 := hB5.trans (hb6.mono hB5.size)
              have own6 := owns_below own5 hb6
              have hs6 := hb6.size
              go_wp2_with fail
              have c7 := containsFunc_any _ _ _ _ _ _ _ _ _ _ _ hp S6 ((hH4.below hb5).below hb6)
              rw [hab.out] at c7
              refine c7.mono ?_
              clear c7
              rintro e w7 ⟨rfl, hb7⟩
              have hB7 := hB6.trans (hb7.mono hB6.size)
              have own7 := owns_below own6 hb7
              have hs7 := hb7.size
              clear own6 own5 hown S6
              cases ab with
              | false =>
                have HE : Hid (M1.fndTo us sv fr tt (k + 1) = M1.fndTo us sv fr tt k) := (by rw [HST.out, if_neg (by rw [HHI.out]; simp)] : _ = _)
                go_wp2_with fail
                exact ⟨⟨k + 1, a, c, q, by omega, by go_num, rfl, (by rw [HE.out]; exact hrq.out : (M1.fndTo us sv fr tt (k + 1)).length = q), by omega, by rw [HE.out]; exact own7, hB7⟩, by simp [intOf]; omega⟩
              | true =>
                have HE : Hid (M1.fndTo us sv fr tt (k + 1) = M1.fndTo us sv fr tt k ++ [t]) := (by rw [HST.out, if_pos HHI.out] : _ = _)
                have own8 := owns_below own7 ((Below.refl _ _).alloc (Nat.le_refl _) (.cells #[.int .i64 t] 2))
                have hsrc := src_one w7 t 2
                have hB8 : Below w3.heap.size w3 (w7.alloc (.cells #[.int .i64 t] 2)) := hB7.alloc hB7.size _
                go_wp2_with (at_builtin; refine wpList_appI (by rfl) _ _ rfl w3.heap.size _ _ q (M1.fndTo us sv fr tt k) hrq.out rfl own8 _ _ _ [t] rfl hsrc (by omega) (by simp; omega) ?_; intro a2 c2 w9 own9 hb9)
                have HL : Hid ((M1.fndTo us sv fr tt (k + 1)).length = q + 1) := (by rw [HE.out]; simp [hrq.out] : _ = _)
                exact ⟨⟨k + 1, a2, c2, q + 1, by omega, by go_num, rfl, HL, by omega, by rw [HE.out]; exact own9, hB8.trans hb9⟩, by simp [intOf]; omega⟩
          · have hkm : k = m := by omega
            have HT : Hid (M1.fnd us sv fr tt = M1.fndTo us sv fr tt k) := (by rw [HF.out, hkm, ← hm.out, M1.fndTo_all] : _ = _)
            have mi := MI.of_owns hrq.out hown
            clear hkm
            go_wp2_with fail
            go_ret
            refine ⟨⟨a, c, ?_, ?_⟩, hB3.trans (hB.mono hB3.size)⟩
            · rw [HT.out, hrq.out]; rfl
            · rw [HT.out, hrq.out]; exact mi.wide (by omega) (Nat.le_refl _)
end Go.Proofs.YtpflbhjgnmkajaaGreat
