/-
  The contract of the model's Found.
-/
import Derived.Test.YtpflbhjgnmkajaaGreatZFound48
namespace M1
theorem any_take {l : List Upd} {p : Upd → Bool} {j : Nat} (hj : j < l.length) : (l.take (j + 1)).any p = ((l.take j).any p || p (up l j)) := by
  rw [List.take_succ_eq_append_getElem hj, List.any_append]
  have : up l j = l[j] := by simp [up, List.getD, hj]
  rw [this]; simp
end M1
namespace Go.Proofs.YtpflbhjgnmkajaaGreat
open Go.ChangeShapes Go.WideShapes Go.ChangeAt Go.RowKit
set_option linter.unusedSimpArgs false
set_option linter.unusedVariables false

set_option maxHeartbeats 16000000 in
set_option maxRecDepth 100000 in
theorem found_spec (av : Option Addr) (n cn : Nat) (us : List M1.Upd) (sv : ByteArray) (fr tt : Int) (w : World) (h1 : IsUpds w av n cn us) :
    Calls Tryz.prog 9 #[.slice av n cn, .string sv, .int .i64 fr, .int .i64 tt] w fun e w' => TrW w w' e (M1.fnd us sv fr tt) ∧ Below w.heap.size w w' := by
  have hl1 : Hid (us.length = n) := h1.hlen
  obtain ⟨ok, hok⟩ : ∃ b, Hid (M1.setOk us = b) := ⟨_, rfl⟩
  obtain ⟨b1, hb1⟩ : ∃ b, Hid (M1.inB fr 0 1000000000 = b) := ⟨_, rfl⟩
  obtain ⟨b2, hb2⟩ : ∃ b, Hid (M1.inB tt fr 1000000000 = b) := ⟨_, rfl⟩
  have HW : Hid (M1.winB fr tt = (b1 && b2)) := (by rw [M1.win_spec, hb1.out, hb2.out] : _ = _)
  have HNO : Hid ((b1 && b2) = false → M1.fnd us sv fr tt = []) := fun h => by unfold M1.fnd; rw [HW.out, h]; rfl
  have own0 : (w.alloc (.cells #[] 2)).ownsRow w.heap.size 2 1 (.slice (some ⟨w.heap.size, 0, none⟩) 0 0) 0 (iL []) := by
    refine ⟨rfl, Or.inr ⟨w.heap.size, 0, #[], rfl, Nat.le_refl _, ?_, Nat.le_refl _, by unfold maxLen; omega, rfl, rfl⟩⟩
    show (w.heap.push (.cells #[] 2))[w.heap.size]? = _
    simp
  have mi0 := MI.of_owns (zs := []) rfl own0
  have hB0 : Below w.heap.size w (w.alloc (.cells #[] 2)) := (Below.refl _ _).alloc (Nat.le_refl _) _
  clear own0
  go_enter Tryz.func9, Tryz.ntmps9
  go_wp2_with fail
  generalize (w.alloc (.cells #[] 2)) = W0 at mi0 hB0 ⊢
  refine (setOk_spec _ _ _ _ _ (h1.below hB0)).mono ?_
  rw [hok.out]
  rintro e w1 ⟨rfl, hb1'⟩
  have hB1 := hB0.trans (hb1'.mono hB0.size)
  have mi1 := (mi0.below hb1').wide (Nat.le_refl _) hb1'.size
  clear mi0 hb1' hB0
  cases ok with
  | false =>
    have HT := M1.fnd_no us sv fr tt hok.out
    go_wp2_with fail
    go_ret
    exact ⟨⟨some ⟨w.heap.size, 0, none⟩, 0, by rw [HT]; rfl, by rw [HT]; exact mi1⟩, hB1⟩
  | true =>
    go_wp2_with fail
    refine (l1In_any _ _ _ _).mono ?_
    rw [hb1.out]
    rintro e w2 ⟨rfl, rfl⟩
    cases b1 with
    | false =>
      have HT := HNO.out (by simp)
      go_wp2_with fail
      go_ret
      exact ⟨⟨some ⟨w.heap.size, 0, none⟩, 0, by rw [HT]; rfl, by rw [HT]; exact mi1⟩, hB1⟩
    | true =>
      go_wp2_with fail
      refine (l1In_any _ _ _ _).mono ?_
      rw [hb2.out]
      rintro e w3 ⟨rfl, rfl⟩
      cases b2 with
      | false =>
        have HT := HNO.out (by simp)
        go_wp2_with fail
        go_ret
        exact ⟨⟨some ⟨w.heap.size, 0, none⟩, 0, by rw [HT]; rfl, by rw [HT]; exact mi1⟩, hB1⟩
      | true =>
        have HF : Hid (M1.fnd us sv fr tt = (M1.trs us).filter (M1.hitB us sv fr tt)) := (by unfold M1.fnd; rw [HW.out]; rfl : _ = _)
        obtain ⟨m, hm⟩ : ∃ m, Hid ((M1.trs us).length = m) := ⟨_, rfl⟩
        have hm60 : m ≤ 60 := by have := M1.trs_len60 us; rw [hm.out] at this; exact this
        have hn60 : n ≤ 60 := by have := M1.setOk_len hok.out; rw [hl1.out] at this; exact this
        have hs1 := hB1.size
        have HSP : Hid (∀ t, M1.sps us t = M1.spTo us t n) := fun t => by unfold M1.sps; rw [if_pos hok.out, hl1.out]
        go_wp2_with fail
        have c3 := tracesOf_spec _ _ _ _ _ (h1.below hB1)
        refine c3.mono ?_
        clear c3
        rintro e w4 ⟨⟨aT, cT, rfl, T4⟩, hb4⟩
        rw [hm.out] at T4 ⊢
        have hB4 := hB1.trans (hb4.mono hB1.size)
        have mi4 := (mi1.below hb4).wide (Nat.le_refl _) hb4.size
        have hcm := T4.2.1
        have hcn := T4.1
        unfold maxLen at hcm
        have hs4 := hb4.size
        clear mi1 hb4
        go_wp2_with fail
        go_loopw [9, 11] (fun v i wr => ∃ (k : Nat) (a : Option Addr) (c q : Nat), k ≤ m ∧ i = .int .i64 k ∧ v = .slice a q c ∧ Hid ((M1.fndTo us sv fr tt k).length = q) ∧ q ≤ k ∧ MI wr a q c w.heap.size wr.heap.size (icell (M1.fndTo us sv fr tt k)) ∧ Below w4.heap.size w4 wr) (fun _ i _ => m - (intOf i).toNat)
        case atStart => exact ⟨0, some ⟨w.heap.size, 0, none⟩, 0, 0, Nat.zero_le _, rfl, rfl, (rfl : (M1.fndTo us sv fr tt 0).length = 0), Nat.le_refl _, mi4, Below.refl _ _⟩
        case round =>
          clear mi4
          obtain ⟨k, a, c, q, hk, rfl, rfl, hrq, hqk, hmi, hB⟩ := hrel
          have hsz := hB.size
          by_cases hlt : k < m
          · have T5 := T4.below hB
            rcases T5.2.2 with ⟨h0, _⟩ | ⟨g, rfl, _, _, rT⟩
            · omega
            have hgl := rT.lt
            have i0 : (0 : Int) ≤ (k : Int) := by omega
            have i1 : (k : Int) < (m : Int) := by omega
            obtain ⟨t, ht⟩ : ∃ t, Hid ((M1.trs us).getD k 0 = t) := ⟨_, rfl⟩
            have d0 := rowI_at rT hlt
            rw [ht.out] at d0
            have HST : Hid (M1.fndTo us sv fr tt (k + 1) = if M1.hitB us sv fr tt t = true then M1.fndTo us sv fr tt k ++ [t] else M1.fndTo us sv fr tt k) := (by rw [← ht.out]; exact M1.fndTo_step (by rw [hm.out]; exact hlt) : _ = _)
            have HLT : Hid (∀ x, x ∈ M1.fndTo us sv fr tt k → x < t) := (by rw [← ht.out]; exact M1.fndTo_lt (by rw [hm.out]; exact hlt) : ∀ x, x ∈ M1.fndTo us sv fr tt k → x < t)
            obtain ⟨vb, hvb⟩ : ∃ b, Hid (M1.visB us t = b) := ⟨_, rfl⟩
            have u4 := h1.below (hB4.trans (hB.mono hB4.size))
            go_wp2_with fail
            have c5 := visible_spec _ _ _ _ t _ u4
            rw [hvb.out] at c5
            refine c5.mono ?_
            clear c5
            rintro e w5 ⟨rfl, hb5⟩
            have hB5 := hB.trans (hb5.mono hB.size)
            have mi5 := (hmi.below hb5).wide (Nat.le_refl _) hb5.size
            have hs5 := hb5.size
            cases vb with
            | false =>
              have HE : Hid (M1.fndTo us sv fr tt (k + 1) = M1.fndTo us sv fr tt k) := (by rw [HST.out, if_neg (by unfold M1.hitB; rw [hvb.out]; simp)] : _ = _)
              go_wp2_with fail
              exact ⟨⟨k + 1, a, c, q, by omega, by go_num, rfl, (by rw [HE.out]; exact hrq.out : (M1.fndTo us sv fr tt (k + 1)).length = q), by omega, by rw [HE.out]; exact mi5, hB5⟩, by simp [intOf]; omega⟩
            | true =>
              obtain ⟨S, hS⟩ : ∃ S, Hid (M1.spTo us t n = S) := ⟨_, rfl⟩
              obtain ⟨p, hp⟩ : ∃ p, Hid (S.length = p) := ⟨_, rfl⟩
              have HHI : Hid (M1.hitB us sv fr tt t = S.any (M1.askB sv fr tt)) := (by unfold M1.hitB; rw [hvb.out, HSP.out, hS.out]; rfl : _ = _)
              have hp60 : p ≤ 60 := by have := M1.spTo_len us t n; rw [hS.out, hp.out] at this; omega
              obtain ⟨F, hF⟩ : ∃ F, Hid (M1.fndTo us sv fr tt k = F) := ⟨_, rfl⟩
              rw [hF.out] at mi5 hrq HST HLT
              have d5 := (hb5.cell (p := ⟨g, k, none⟩) (by show g < wr.heap.size; omega)).trans d0
              have T6 := T5.below hb5
              clear hmi d0
              go_wp2_with fail
              have c6 := l4Spans_any _ _ _ _ t _ (u4.below hb5) (by omega)
              rw [hS.out] at c6
              refine c6.mono ?_
              clear c6
              rintro e w6 ⟨⟨aS, cS, rfl, S6⟩, hb6⟩
              rw [hp.out] at S6 ⊢
              have hB6 := hB5.trans (hb6.mono hB5.size)
              have mi6 := (mi5.below hb6).wide (Nat.le_refl _) hb6.size
              have rT6 := (rT.below hb5).below hb6
              have hs6 := hb6.size
              have hc1 := S6.1
              have hc2 := S6.2.1
              unfold maxLen at hc2
              clear mi5 d5 T6 T5
              obtain ⟨wo, hwo⟩ : ∃ W, W = w6 := ⟨_, rfl⟩
              subst hwo
              go_wp2_with fail
              go_loopw [9, 13] (fun v i wr => ∃ (j : Nat) (a : Option Addr) (c q2 : Nat) (Z : List Int), j ≤ p ∧ i = .int .i64 j ∧ v = .slice a q2 c ∧ Hid (Z.length = q2) ∧ q2 ≤ k + 1 ∧ Hid (Z = if (S.take j).any (M1.askB sv fr tt) = true then F ++ [t] else F) ∧ MI wr a q2 c w.heap.size wr.heap.size (icell Z) ∧ Below wo.heap.size wo wr) (fun _ i _ => p - (intOf i).toNat)
              case atStart => exact ⟨0, a, c, q, F, Nat.zero_le _, rfl, rfl, hrq, by omega, (by simp : F = _), mi6, Below.refl _ _⟩
              case round =>
                clear mi6
                obtain ⟨j, a2, c2, q2, Z, hj, rfl, rfl, hzq, hq2, hZ, hmz, hBj⟩ := hrel
                have hsj := hBj.size
                by_cases hjlt : j < p
                · have S7 := S6.below hBj
                  rcases S7.2.2 with ⟨h0, _⟩ | ⟨gs, rfl, _, _, rS⟩
                  · omega
                  have hgs := rS.lt
                  have j0 : (0 : Int) ≤ (j : Int) := by omega
                  have j1 : (j : Int) < (p : Int) := by omega
                  have z2 : scell S (j * 5 + 2) = .string (M1.up S j).s := scell_at S j 2 (by omega)
                  have z3 : scell S (j * 5 + 3) = .int .i64 (M1.up S j).st := scell_at S j 3 (by omega)
                  have z4 : scell S (j * 5 + 4) = .int .i64 (M1.up S j).en := scell_at S j 4 (by omega)
                  have d2 := rS.cell (o := j * 5 + 2) (by omega)
                  have d3 := rS.cell (o := j * 5 + 3) (by omega)
                  have d4 := rS.cell (o := j * 5 + 4) (by omega)
                  rw [z2] at d2
                  rw [z3] at d3
                  rw [z4] at d4
                  clear z2 z3 z4 S7
                  have HAT : Hid ((S.take (j + 1)).any (M1.askB sv fr tt) = ((S.take j).any (M1.askB sv fr tt) || M1.askB sv fr tt (M1.up S j))) := M1.any_take (by rw [hp.out]; exact hjlt)
                  obtain ⟨u, hu⟩ : ∃ u, Hid (M1.up S j = u) := ⟨_, rfl⟩
                  rw [hu.out] at d2 d3 d4 HAT
                  by_cases ha : M1.askB sv fr tt u = true
                  · have hx : u.s.toList = sv.toList ∧ u.st ≤ tt ∧ fr ≤ u.en := by
                      unfold M1.askB at ha; simp at ha; exact ⟨ha.1.1, ha.1.2, ha.2⟩
                    obtain ⟨x1, x2, x3⟩ := hx
                    have HZ2 : Hid ((if (S.take (j + 1)).any (M1.askB sv fr tt) = true then F ++ [t] else F) = F ++ [t]) := (by rw [HAT.out, ha]; simp : _ = _)
                    have d7 := rowI_at (rT6.below hBj) hlt
                    rw [ht.out] at d7
                    have hl7 := (rT6.below hBj).lt
                    go_wp2_with fail
                    refine (l4Put_any _ _ _ _ _ Z t _ hzq hmz (by omega) (by omega) (Nat.le_refl _)).mono ?_
                    rintro e w8 ⟨⟨a3, c3, r, rfl, hput, mi8⟩, hb8⟩
                    have HR : Hid (r = F ++ [t]) := (by
                      by_cases c : (S.take j).any (M1.askB sv fr tt) = true
                      · have e : Z = F ++ [t] := by rw [hZ.out, if_pos c]
                        rw [M1.put_again (by rw [e]; simp) hput, e]
                      · have e : Z = F := by rw [hZ.out, if_neg c]
                        rw [M1.put_end (by rw [e]; exact HLT.out) hput, e] : r = F ++ [t])
                    have HL : Hid (r.length = q + 1) := (by rw [HR.out]; simp [hrq.out] : r.length = q + 1)
                    rw [HL.out] at mi8 ⊢
                    go_wp2_with fail
                    exact ⟨⟨j + 1, a3, c3, q + 1, r, by omega, by go_num, rfl, HL, by omega, (by rw [HZ2.out]; exact HR.out : r = _), mi8, hBj.trans (hb8.mono hBj.size)⟩, by simp [intOf]; omega⟩
                  · have ha' : M1.askB sv fr tt u = false := by simpa using ha
                    have HZ2 : Hid (Z = if (S.take (j + 1)).any (M1.askB sv fr tt) = true then F ++ [t] else F) := (by rw [HAT.out, ha', Bool.or_false]; exact hZ.out : _ = _)
                    by_cases x1 : u.s.toList = sv.toList
                    · by_cases x2 : u.st ≤ tt
                      · have x3 : ¬ fr ≤ u.en := fun x3 => by
                          unfold M1.askB at ha; simp [x1, x2, x3] at ha
                        clear ha ha'
                        go_wp2_with fail
                        exact ⟨⟨j + 1, a2, c2, q2, Z, by omega, by go_num, rfl, hzq, hq2, HZ2, hmz, hBj⟩, by simp [intOf]; omega⟩
                      · clear ha ha'
                        go_wp2_with fail
                        exact ⟨⟨j + 1, a2, c2, q2, Z, by omega, by go_num, rfl, hzq, hq2, HZ2, hmz, hBj⟩, by simp [intOf]; omega⟩
                    · clear ha ha'
                      go_wp2_with fail
                      exact ⟨⟨j + 1, a2, c2, q2, Z, by omega, by go_num, rfl, hzq, hq2, HZ2, hmz, hBj⟩, by simp [intOf]; omega⟩
                · have hjp : j = p := by omega
                  have HE : Hid (M1.fndTo us sv fr tt (k + 1) = Z) := (by
                    rw [HST.out, HHI.out, hZ.out, hjp, ← hp.out, List.take_length] : _ = _)
                  clear hjp
                  go_wp2_with fail
                  exact ⟨⟨k + 1, a2, c2, q2, by omega, by go_num, rfl, (by rw [HE.out]; exact hzq.out : (M1.fndTo us sv fr tt (k + 1)).length = q2), by omega, by rw [HE.out]; exact hmz, hB6.trans (hBj.mono hB6.size)⟩, by simp [intOf]; omega⟩
          · have hkm : k = m := by omega
            have HT : Hid (M1.fnd us sv fr tt = M1.fndTo us sv fr tt k) := (by rw [HF.out, hkm, ← hm.out, M1.fndTo_all] : _ = _)
            clear hkm
            go_wp2_with fail
            go_ret
            refine ⟨⟨a, c, ?_, ?_⟩, hB4.trans (hB.mono hB4.size)⟩
            · rw [HT.out, hrq.out]; rfl
            · rw [HT.out, hrq.out]; exact hmi
end Go.Proofs.YtpflbhjgnmkajaaGreat
