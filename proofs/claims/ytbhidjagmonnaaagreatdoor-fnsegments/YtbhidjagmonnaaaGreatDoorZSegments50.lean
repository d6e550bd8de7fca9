/-
  Texts of one proof, joined: Math34, Set2, SameS.
-/
import Derived.Test.YtbhidjagmonnaaaGreatDoorZSegments40
import Derived.Test.YtbhidjagmonnaaaGreatDoorZSegments49
import Derived.Test.YtbhidjagmonnaaaGreatDoorZSegments18
import Derived.Test.YtbhidjagmonnaaaGreatDoorZSegments28
namespace M1
theorem ext_list (s : ByteArray) (a b : Nat) : (s.extract a b).data.toList = (s.data.toList.drop a).take (b - a) := by
  rw [ByteArray.data_extract, Array.toList_extract]
theorem b_ext {x y : ByteArray} (h : x.data.toList = y.data.toList) : x = y := by rw [← mkB_of x, h, mkB_of]
theorem ext_all (s : ByteArray) : s.extract 0 s.size = s := b_ext (by rw [ext_list, List.drop_zero, Nat.sub_zero, ← len_list, List.take_length])
theorem cut_list (S : List UInt8) {K x m : Nat} (h : x + m ≤ K) : ((S.take K).drop x).take m = (S.drop x).take m := by
  rw [List.drop_take, List.take_take, Nat.min_eq_left (by omega)]
theorem cut_ext {s : ByteArray} {K x y : Nat} (h : y ≤ K) : (s.extract 0 K).extract x y = s.extract x y := b_ext (by
  by_cases c : x ≤ y
  · rw [ext_list, ext_list, ext_list, Nat.sub_zero, List.drop_zero, cut_list _ (by omega)]
  · rw [ext_list (s.extract 0 K), ext_list s x y, show y - x = 0 by omega, List.take_zero, List.take_zero])
theorem cut_ln {s : ByteArray} {K a : Nat} (h : a < K) : lnAt (s.extract 0 K) a = lnAt s a := by
  unfold lnAt
  rw [ext_list, Nat.sub_zero, List.drop_zero, List.getD_eq_getElem?_getD, List.getD_eq_getElem?_getD, List.getElem?_take_of_lt h]
theorem cut_size {s : ByteArray} {K : Nat} (h : K ≤ s.size) : (s.extract 0 K).size = K := by rw [ByteArray.size_extract]; omega
/-- A frame that stands within the first K bytes stands there in the whole, and the other way round. -/
theorem cut_frm {s : ByteArray} {K a : Nat} (hK : K ≤ s.size) (h : a + 5 + lnAt s a ≤ K) : Frm (s.extract 0 K) a ↔ Frm s a := by
  unfold Frm dataAt
  rw [cut_size hK, cut_ln (by omega), cut_ext (by omega), cut_ext (by omega)]
  constructor
  · rintro ⟨h1, h2, h3, h4⟩
    exact ⟨by omega, h2, by omega, h4⟩
  · rintro ⟨h1, h2, h3, h4⟩
    exact ⟨by omega, h2, by omega, h4⟩
theorem cut_frU {s : ByteArray} {K a : Nat} (hK : K ≤ s.size) (h : a + 5 + lnAt s a ≤ K) : frU (s.extract 0 K) a = frU s a := by
  have hd : dataAt (s.extract 0 K) a = dataAt s a := by
    unfold dataAt
    rw [cut_ln (by omega), cut_ext (by omega)]
  by_cases c : Frm s a
  · rw [frU_yes c, frU_yes ((cut_frm hK h).2 c), hd]
  · rw [frU_no c, frU_no (fun q => c ((cut_frm hK h).1 q))]
theorem cut_no {s : ByteArray} {K a : Nat} (hK : K ≤ s.size) (h : ¬ a + 5 + lnAt s a ≤ K) : frU (s.extract 0 K) a = none := frU_no fun q => by
  have h1 := q.1
  have h3 := q.2.2.1
  rw [cut_size hK] at h1 h3
  rw [cut_ln (by omega)] at h3
  exact h h3
theorem cut_stR {s : ByteArray} {K a : Nat} {us : List Upd} (hK : K ≤ s.size) (h : a + 5 + lnAt s a ≤ K) : stR (s.extract 0 K) us a = stR s us a := by
  unfold stR; rw [cut_frU hK h]
/-- What is recovered of the part up to the place that is told is the same. -/
theorem rcv_cut {s : ByteArray} : ∀ (n : Nat) (us : List Upd) (a : Nat), s.size - a ≤ n → a ≤ s.size → setOk us = true → rcv (s.extract 0 (rcv s us a).2) us a = rcv s us a := by
  intro n
  induction n with
  | zero =>
    intro us a hn ha h
    cases e : stR s us a with
    | none =>
      rw [rcv_none e]
      refine rcv_none (stR_none (frU_no fun q => ?_))
      have := q.1
      rw [cut_size ha] at this
      omega
    | some u =>
      obtain ⟨h1, _, _, _⟩ := (frU_some (stR_some e).1).1
      omega
  | succ n ih =>
    intro us a hn ha h
    cases e : stR s us a with
    | none =>
      rw [rcv_none e]
      refine rcv_none (stR_none (frU_no fun q => ?_))
      have := q.1
      rw [cut_size ha] at this
      omega
    | some u =>
      obtain ⟨h1, h2, h3, _⟩ := (frU_some (stR_some e).1).1
      have hok := (nxt_true (stR_some e).2).2
      have R := rcv_ok (s := s) s.size (insD us u) (a + 5 + lnAt s a) (by omega) h3 hok
      rw [rcv_some e]
      rw [rcv_some (u := u) (by rw [cut_stR R.2.2 R.2.1]; exact e), cut_ln (by omega)]
      exact ih _ _ (by omega) h3 hok

theorem up_take {us : List Upd} {m i : Nat} (h : i < m) : up (us.take m) i = up us i := by
  unfold up
  rw [List.getD_eq_getElem?_getD, List.getD_eq_getElem?_getD, List.getElem?_take_of_lt h]
theorem lastN_take {us : List Upd} {m : Nat} (r : Int) : ∀ k, k ≤ m → lastN (us.take m) k r = lastN us k r
  | 0, _ => rfl
  | k + 1, h => by rw [lastN_succ, lastN_succ, up_take (by omega), lastN_take r k (by omega)]
theorem ok_take {us : List Upd} (h : setOk us = true) (m : Nat) : setOk (us.take m) = true := by
  have hl := setOk_len h
  rw [setOk_yes (l := us.take m) fun j hj => ?_]
  · simp; omega
  · have hj2 : j < us.length ∧ j < m := by simp at hj; omega
    have := setOk_all h j hj2.1
    unfold okAt at this ⊢
    rw [up_take hj2.2]
    by_cases c : j = 0
    · rw [if_pos c] at this ⊢; exact this
    · rw [if_neg c] at this ⊢; rw [up_take (by omega)]; exact this
theorem take_snoc {us : List Upd} {j : Nat} (h : j < us.length) : us.take (j + 1) = us.take j ++ [up us j] := by
  rw [List.take_succ_eq_append_getElem h]
  unfold up
  rw [List.getD_eq_getElem?_getD, List.getElem?_eq_getElem h]; rfl
/-- The next of a set comes next behind those ahead of it. -/
theorem take_next {us : List Upd} (h : setOk us = true) {j : Nat} (hj : j < us.length) : nxt (us.take j) (up us j) = true ∧ insD (us.take j) (up us j) = us.take (j + 1) := by
  have hT := ok_take h j
  have hTa := setOk_all hT
  have hok := okAt_ok (setOk_all h j hj)
  obtain ⟨d1, d5, d3, d4⟩ := okU_dot hok
  have hlen : (us.take j).length = j := by simp; omega
  have L := LInv.start hTa
  have hfm := L.fm (ok_sorted hTa) d1 d5
  have hdn := next_dn (setOk_all h) hj
  have e1 : (up us j).dn = lastN (us.take j) (us.take j).length (up us j).dr + 1 := by rw [hlen, lastN_take _ _ (Nat.le_refl _)]; exact hdn
  have hnew := (L.put ⟨d1, d5, d3, d4⟩ e1).1
  have hi : insD (us.take j) (up us j) = us.take (j + 1) := by
    refine sorted_unique (insD_sorted (ok_sorted hTa)) (ok_sorted (setOk_all (ok_take h (j + 1)))) ?_
    rw [take_snoc hj]
    exact (insD_new hnew).trans (List.perm_append_comm (l₁ := [up us j])) 
  refine ⟨?_, hi⟩
  unfold nxt
  rw [hi, ok_take h (j + 1), hfm, e1]
  simp

/-- A frame of an update stands in its segment. -/
theorem seg_list (us : List Upd) : ∀ k m, k ≤ m → ∃ R, (segTo us m).data.toList = (segTo us k).data.toList ++ R
  | k, m, h => by
    induction m with
    | zero =>
      have : k = 0 := by omega
      subst this; exact ⟨[], by simp⟩
    | succ m ih =>
      by_cases c : k = m + 1
      · subst c; exact ⟨[], by simp⟩
      · obtain ⟨R, hR⟩ := ih (by omega)
        refine ⟨R ++ (frame (mkB (txt (up us m)))).data.toList, ?_⟩
        show (segTo us m ++ frame (mkB (txt (up us m)))).data.toList = _
        rw [ByteArray.data_append, Array.toList_append, hR, List.append_assoc]
theorem by1_list (n : Nat) : (by1 n).data.toList = [UInt8.ofNat n] := rfl
theorem frame_list {l : List UInt8} (h : l.length ≤ 200) : (frame (mkB l)).data.toList = UInt8.ofNat l.length :: ((sumT (mkB l)).data.toList ++ l) := by
  unfold frame
  rw [if_neg (by rw [mkB_size]; omega), ByteArray.data_append, Array.toList_append, ByteArray.data_append, Array.toList_append, by1_list, mkB_size, mkB_toList]
  rfl
theorem sumT_len (d : ByteArray) : (sumT d).data.toList.length = 4 := by
  have := sumT_size d
  rw [len_list]; exact this
theorem seg_frame {us : List Upd} (h : setOk us = true) {j : Nat} (hj : j < us.length) :
    lnAt (segTo us us.length) (segTo us j).size = (txt (up us j)).length ∧ frU (segTo us us.length) (segTo us j).size = some (up us j) ∧ (segTo us (j + 1)).size = (segTo us j).size + 5 + (txt (up us j)).length := by
  have hok := okAt_ok (setOk_all h j hj)
  have hl := txt_len hok
  obtain ⟨d, hd⟩ : ∃ d, txt (up us j) = d := ⟨_, rfl⟩
  have hF := frame_list (l := d) (by rw [← hd]; exact hl)
  have hc := sumT_len (mkB d)
  have h1 : (segTo us (j + 1)).data.toList = (segTo us j).data.toList ++ (UInt8.ofNat d.length :: ((sumT (mkB d)).data.toList ++ d)) := by
    show (segTo us j ++ frame (mkB (txt (up us j)))).data.toList = _
    rw [ByteArray.data_append, Array.toList_append, hd, hF]
  obtain ⟨R, hR⟩ := seg_list us (j + 1) us.length (by omega)
  rw [h1] at hR
  obtain ⟨P, hP⟩ : ∃ P, (segTo us j).data.toList = P := ⟨_, rfl⟩
  have hPl : (segTo us j).size = P.length := by rw [← hP, len_list]
  obtain ⟨c, hcc⟩ : ∃ c, (sumT (mkB d)).data.toList = c := ⟨_, rfl⟩
  rw [hcc] at h1 hR hc
  rw [hP] at h1 hR
  rw [hd, hPl]
  rw [hd] at hl
  have hS : (segTo us us.length).data.toList = P ++ (UInt8.ofNat d.length :: (c ++ (d ++ R))) := by rw [hR]; simp
  have hsz : (segTo us us.length).size = P.length + (5 + d.length + R.length) := by rw [← len_list, hS]; simp; omega
  have hln : lnAt (segTo us us.length) P.length = d.length := by
    unfold lnAt
    rw [hS, List.getD_eq_getElem?_getD, List.getElem?_append_right (Nat.le_refl _), Nat.sub_self]
    simp
    omega
  have hdat : dataAt (segTo us us.length) P.length = mkB d := b_ext (by
    unfold dataAt
    rw [hln, ext_list, hS, mkB_toList, show P.length + 5 + d.length - (P.length + 5) = d.length by omega, ← List.drop_drop, List.drop_left]
    rw [List.drop_succ_cons, ← hc, List.drop_left, List.take_left])
  have hsum : (segTo us us.length).extract (P.length + 1) (P.length + 5) = sumT (mkB d) := b_ext (by
    rw [ext_list, hS, hcc, show P.length + 5 - (P.length + 1) = 4 by omega, ← List.drop_drop, List.drop_left]
    rw [List.drop_succ_cons, List.drop_zero, ← hc, List.take_left])
  refine ⟨hln, ?_, ?_⟩
  · rw [frU_yes ⟨by omega, by omega, by omega, by rw [hdat, hsum]⟩, hdat, mkB_toList]
    exact rdU_iff.2 ⟨hok, hd.symm⟩
  · rw [← len_list, h1]; simp; omega
theorem seg_mono {us : List Upd} {j m : Nat} (h : j ≤ m) : (segTo us j).size ≤ (segTo us m).size := by
  obtain ⟨R, hR⟩ := seg_list us j m h
  rw [← len_list, ← len_list, hR]; simp
/-- Of a segment that is cut at K the first updates come back, as many as stand there whole. -/
theorem seg_cut {us : List Upd} (h : setOk us = true) {K : Nat} (hK : K ≤ (segTo us us.length).size) : ∀ (n j : Nat), us.length - j ≤ n → j ≤ us.length → (segTo us j).size ≤ K →
    ∃ i, j ≤ i ∧ i ≤ us.length ∧ (segTo us i).size ≤ K ∧ (K = (segTo us us.length).size → i = us.length) ∧ rcv ((segTo us us.length).extract 0 K) (us.take j) (segTo us j).size = (us.take i, (segTo us i).size) := by
  intro n
  induction n with
  | zero =>
    intro j hn hj hs
    have e : j = us.length := by omega
    refine ⟨j, Nat.le_refl _, hj, hs, fun _ => e, rcv_none (stR_none (frU_no fun q => ?_))⟩
    have := q.1
    rw [cut_size hK] at this
    rw [e] at this hs
    omega
  | succ n ih =>
    intro j hn hj hs
    by_cases e : j = us.length
    · refine ⟨j, Nat.le_refl _, hj, hs, fun _ => e, rcv_none (stR_none (frU_no fun q => ?_))⟩
      have := q.1
      rw [cut_size hK] at this
      rw [e] at this hs
      omega
    · have hj2 : j < us.length := by omega
      obtain ⟨f1, f2, f3⟩ := seg_frame h hj2
      obtain ⟨n1, n2⟩ := take_next h hj2
      by_cases c : (segTo us (j + 1)).size ≤ K
      · obtain ⟨i, i1, i2, i3, i4, i5⟩ := ih (j + 1) (by omega) (by omega) c
        refine ⟨i, by omega, i2, i3, i4, ?_⟩
        have hle : (segTo us j).size + 5 + lnAt (segTo us us.length) (segTo us j).size ≤ K := by rw [f1]; omega
        rw [rcv_some (u := up us j) (by rw [cut_stR hK hle]; exact stR_yes f2 n1), cut_ln (by omega), f1, ← f3, n2]
        exact i5
      · refine ⟨j, Nat.le_refl _, hj, hs, fun q => ?_, rcv_none (stR_none (cut_no hK (by rw [f1]; omega)))⟩
        have := seg_mono (us := us) (j := j + 1) (m := us.length) (by omega)
        omega
theorem segTo_take {us : List Upd} {m : Nat} : ∀ k, k ≤ m → segTo (us.take m) k = segTo us k
  | 0, _ => rfl
  | k + 1, h => by
    show segTo (us.take m) k ++ _ = segTo us k ++ _
    rw [segTo_take k (by omega), up_take (by omega)]
theorem seg_part {us : List Upd} {i : Nat} (hi : i ≤ us.length) : (segTo us us.length).extract 0 (segTo us i).size = segTo us i := b_ext (by
  obtain ⟨R, hR⟩ := seg_list us i us.length hi
  rw [ext_list, hR, List.drop_zero, Nat.sub_zero, ← len_list, List.take_left])
end M1

namespace Go.Proofs.YtbhidjagmonnaaaGreatDoor
open Go.ChangeShapes Go.WideShapes Go.ChangeAt Go.RowKit
set_option linter.unusedSimpArgs false

theorem eqDot_self (a b : Int) (w : World) :
    Calls Tryz.prog 70 #[.agg #[.int .i64 a, .int .i64 b], .agg #[.int .i64 a, .int .i64 b]] w fun e w' => e = .returned (.bool true) ∧ Below w.heap.size w w' :=
  (eqDot_any a b a b w).mono fun e w' ⟨he, hb⟩ => ⟨by rw [he]; simp [M1.eqd], hb⟩

theorem eqSpan_self (a b c d : Int) (s : ByteArray) (w : World) :
    Calls Tryz.prog 72 #[.agg #[.int .i64 a, .int .i64 b, .string s, .int .i64 c, .int .i64 d], .agg #[.int .i64 a, .int .i64 b, .string s, .int .i64 c, .int .i64 d]] w fun e w' => e = .returned (.bool true) ∧ Below w.heap.size w w' := by
  go_enter Tryz.func72, Tryz.ntmps72
  go_wp2
  go_ret
  refine ⟨rfl, ?_⟩
  repeat (first | (with_reducible exact Below.refl _ _) | ((with_reducible refine Below.setCell ?_ ?_ _); rotate_left; (focus (first | omega | (simp; done) | (simp; omega)))) | ((with_reducible refine Below.alloc ?_ ?_ _); rotate_left; (focus (first | omega | (simp; done) | (simp; omega)))) | (with_reducible refine Below.drew ?_))

set_option maxHeartbeats 4000000 in
theorem eqUpdate_self (dr dn sw sc sr k tr id pa st en lv : Int) (s : ByteArray) (w : World) :
    Calls Tryz.prog 44 #[.agg #[.int .i64 dr, .int .i64 dn, .int .i64 sw, .int .i64 sc, .int .i64 sr, .int .i64 k, .int .i64 tr, .int .i64 id, .int .i64 pa, .string s, .int .i64 st, .int .i64 en, .int .i64 lv], .agg #[.int .i64 dr, .int .i64 dn, .int .i64 sw, .int .i64 sc, .int .i64 sr, .int .i64 k, .int .i64 tr, .int .i64 id, .int .i64 pa, .string s, .int .i64 st, .int .i64 en, .int .i64 lv]] w fun e w' => e = .returned (.bool true) ∧ Below w.heap.size w w' := by
  go_enter Tryz.func44, Tryz.ntmps44
  go_wp2_with fail
  refine (eqDot_self _ _ _).mono ?_
  rintro e w1 ⟨rfl, hb1⟩
  have hB1 := hb1
  clear hb1
  obtain ⟨hc1, hf1⟩ := bcell hB1
  have hz1 := hB1.size
  (try simp [Nat.succ_le_iff] at hz1)
  have hz1_0 : w.heap.size < w1.heap.size := by omega
  have hz1_1 : w.heap.size + 1 < w1.heap.size := by omega
  go_wp2_with fail
  refine (eqStamp_same _ _ _ _).mono ?_
  rintro e w2 ⟨rfl, hb2⟩
  have hB2 := hB1.trans (hb2.mono hB1.size)
  obtain ⟨hc2, hf2⟩ := bcell hB2
  have hz2 := hB2.size
  (try simp [Nat.succ_le_iff] at hz2)
  have hz2_0 : w.heap.size < w2.heap.size := by omega
  have hz2_1 : w.heap.size + 1 < w2.heap.size := by omega
  clear hb2 hB1 hc1 hf1 hz1 hz1_0 hz1_1
  go_wp2_with fail
  refine (eqSpan_self _ _ _ _ _ _).mono ?_
  rintro e w3 ⟨rfl, hb3⟩
  have hB3 := hB2.trans (hb3.mono hB2.size)
  obtain ⟨hc3, hf3⟩ := bcell hB3
  have hz3 := hB3.size
  (try simp [Nat.succ_le_iff] at hz3)
  have hz3_0 : w.heap.size < w3.heap.size := by omega
  have hz3_1 : w.heap.size + 1 < w3.heap.size := by omega
  clear hb3 hB2 hc2 hf2 hz2 hz2_0 hz2_1
  go_wp2_with fail
  go_ret
  refine ⟨rfl, ?_⟩
  repeat (first | (with_reducible exact Below.refl _ _) | ((with_reducible refine Below.setCell ?_ ?_ _); rotate_left; (focus (first | omega | (simp; done) | (simp; omega)))) | ((with_reducible refine Below.alloc ?_ ?_ _); rotate_left; (focus (first | omega | (simp; done) | (simp; omega)))) | (with_reducible refine Below.drew ?_) | ((with_reducible refine Below.trans ?_ (Below.mono hB3 ?_)); rotate_left; (focus (first | omega | (simp; done) | (simp; omega)))))

set_option maxHeartbeats 4000000 in
theorem eqUpdateS_self (av bv : Option Addr) (n cn cm : Nat) (us : List M1.Upd) (w : World) (h1 : IsUpds w av n cn us) (h2 : IsUpds w bv n cm us) :
    Calls Tryz.prog 19 #[.slice av n cn, .slice bv n cm] w fun e w' => e = .returned (.bool true) ∧ Below w.heap.size w w' := by
  have hm1 := h1.hcap
  have hm2 := h1.hmost
  have hm3 := h2.hcap
  have hm4 := h2.hmost
  unfold maxLen at hm2 hm4
  have hnb : ((n : Int) != (n : Int)) = false := by simp
  go_enter Tryz.func19, Tryz.ntmps19
  go_wp2
  go_loopw [5] (fun i wr => ∃ k : Nat, k ≤ n ∧ i = .int .i64 k ∧ Below w.heap.size w wr) (fun i _ => n - (intOf i).toNat)
  case atStart => exact ⟨0, Nat.zero_le _, rfl, Below.refl _ _⟩
  case round =>
    obtain ⟨k, hk, rfl, hB⟩ := hrel
    by_cases hlt : k < n
    · have g1 := h1.below hB
      have g2 := h2.below hB
      rcases g1.hlies with h0 | ⟨b, off, rfl, hb, hc⟩
      · omega
      rcases g2.hlies with h0 | ⟨b2, off2, rfl, hb2, hc2⟩
      · omega
      obtain ⟨c0, c1, c2, c3, c4, c5, c6, c7, c8, c9, c10, c11, c12⟩ := hc k hlt
      obtain ⟨d0, d1, d2, d3, d4, d5, d6, d7, d8, d9, d10, d11, d12⟩ := hc2 k hlt
      clear hc hc2 g1 g2
      have i0 : (0 : Int) ≤ (k : Int) := by omega
      have i1 : (k : Int) < (n : Int) := by omega
      go_wp2_with fail
      go_region_held3 (fun w' => Kp wr w')
        (first | exact kp_zero _ | exact kp_drew (by assumption) | exact kp_step (by assumption) (by assumption))
        (first
          | (go_at_call 44; refine (eqUpdate_self _ _ _ _ _ _ _ _ _ _ _ _ _ _).mono ?_; rintro e w' ⟨rfl, hb⟩))
      rename_i hK
      obtain ⟨hK1, hK2⟩ := hK
      have hB' := hB.trans (hK1.mono hB.size)
      go_wp2_with fail
      exact ⟨⟨k + 1, by omega, by go_num, hB'⟩, by simp [intOf]; omega⟩
    · go_wp2_with fail
      go_ret
      exact ⟨rfl, hB⟩

end Go.Proofs.YtbhidjagmonnaaaGreatDoor

namespace M1
theorem ueq_self (u : Upd) : ueq u u = true := by simp [ueq]
end M1
namespace Go.Proofs.YtbhidjagmonnaaaGreatDoor
open Go.ChangeShapes Go.WideShapes Go.ChangeAt Go.RowKit
set_option linter.unusedSimpArgs false
set_option linter.unusedVariables false

theorem big_any (av : Option Addr) (len cap : Nat) (w : World) (hc : len ≤ cap) (hm : cap ≤ maxLen) :
    Calls Tryz.prog 6 #[.slice av len cap] w fun e w' => e = .returned (.bool (decide ((1048576 : Int) < (len : Int)))) ∧ w' = w := by
  unfold maxLen at hm
  go_enter Tryz.func6, Tryz.ntmps6
  go_wp2
  go_ret
  exact ⟨rfl, rfl⟩

attribute [local go_sem high] eqU

set_option maxHeartbeats 4000000 in
theorem sameSet_self (av bv : Option Addr) (n cn cm : Nat) (us : List M1.Upd) (w : World) (h1 : IsUpds w av n cn us) (h2 : IsUpds w bv n cm us) :
    Calls Tryz.prog 12 #[.slice av n cn, .slice bv n cm] w fun e w' => e = .returned (.bool true) ∧ Below w.heap.size w w' := by
  have hm1 := h1.hcap
  have hm2 := h1.hmost
  have hm3 := h2.hcap
  have hm4 := h2.hmost
  unfold maxLen at hm2 hm4
  have hnb : ((n : Int) != (n : Int)) = false := by simp
  go_enter Tryz.func12, Tryz.ntmps12
  go_wp2_with fail
  go_loopw [5] (fun i wr => ∃ k : Nat, k ≤ n ∧ i = .int .i64 k ∧ Below w.heap.size w wr) (fun i _ => n - (intOf i).toNat)
  case atStart => exact ⟨0, Nat.zero_le _, rfl, Below.refl _ _⟩
  case round =>
    obtain ⟨k, hk, rfl, hB⟩ := hrel
    by_cases hlt : k < n
    · have g1 := h1.below hB
      have g2 := h2.below hB
      rcases g1.hlies with h0 | ⟨b, off, rfl, hb, hc⟩
      · omega
      rcases g2.hlies with h0 | ⟨b2, off2, rfl, hb2, hc2⟩
      · omega
      obtain ⟨c0, c1, c2, c3, c4, c5, c6, c7, c8, c9, c10, c11, c12⟩ := hc k hlt
      obtain ⟨d0, d1, d2, d3, d4, d5, d6, d7, d8, d9, d10, d11, d12⟩ := hc2 k hlt
      clear hc hc2 g1 g2
      have i0 : (0 : Int) ≤ (k : Int) := by omega
      have i1 : (k : Int) < (n : Int) := by omega
      have hq := M1.ueq_self (M1.up us k)
      go_wp2_with fail
      go_region_held3 (fun w' => Kp wr w') (first | exact kp_zero _ | exact kp_drew (by assumption) | exact kp_step (by assumption) (by assumption)) (fail)
      rename_i hK
      have hB' := hB.trans (hK.1.mono hB.size)
      go_wp2_with fail
      exact ⟨⟨k + 1, by omega, by go_num, hB'⟩, by simp [intOf]; omega⟩
    · go_wp2_with fail
      go_ret
      exact ⟨rfl, hB⟩

end Go.Proofs.YtbhidjagmonnaaaGreatDoor
