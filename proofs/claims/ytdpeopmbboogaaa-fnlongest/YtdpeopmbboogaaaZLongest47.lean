/-
  The contract of the program's ForestOf.
-/
import Derived.Test.YtdpeopmbboogaaaZLongest46
import Derived.Test.YtdpeopmbboogaaaZLongest44
import Derived.Test.YtdpeopmbboogaaaZLongest42
import Derived.Test.YtdpeopmbboogaaaZLongest41
import Derived.Laws.EntriesVeiled
namespace M1
theorem sps_60 (us : List Upd) (tr : Int) : (sps us tr).length ≤ 60 := by
  by_cases h : setOk us = true
  · exact Nat.le_trans (sps_len us tr) (setOk_len h)
  · unfold sps
    rw [if_neg h]; simp
theorem for_len {S : List Upd} (hS : S.Pairwise idlt) {i : Nat} (hi : i ≤ S.length) : (forTo S i).length ≤ S.length :=
  nd_len (nd_for hS i hi) fun _ hq => for_mem hS hq
end M1
namespace Go.Proofs.Ytdpeopmbboogaaa
open Go.ChangeShapes Go.WideShapes Go.ChangeAt Go.RowKit Go.Shelf
set_option linter.unusedSimpArgs false
set_option linter.unusedVariables false
attribute [local go_sem] Oper.semAt_some

theorem SpIn.same {W W' : World} {av : Option Addr} {m c B : Nat} {S : List M1.Upd} (h : SpIn W av m c B S) (e : ∀ k, k < B → W'.heap[k]? = W.heap[k]?) : SpIn W' av m c B S := by
  refine ⟨h.len, h.cap, h.most, ?_⟩
  rcases h.lies with h0 | ⟨g, e1, h2, r⟩
  · exact Or.inl h0
  · exact Or.inr ⟨g, e1, h2, r.blk (e g h2)⟩

theorem SpIn.same' {W W' : World} {av : Option Addr} {m c B : Nat} {S : List M1.Upd} (h : SpIn W av m c B S) (e : ∀ k, k < B → av = some ⟨k, 0, none⟩ → W'.heap[k]? = W.heap[k]?) : SpIn W' av m c B S := by
  refine ⟨h.len, h.cap, h.most, ?_⟩
  rcases h.lies with h0 | ⟨g, e1, h2, r⟩
  · exact Or.inl h0
  · exact Or.inr ⟨g, e1, h2, r.blk (e g h2 e1)⟩

set_option maxRecDepth 100000 in
set_option maxHeartbeats 8000000 in
theorem forestOf_impl (av : Option Addr) (n cn : Nat) (us : List M1.Upd) (tr : Int) (w : World) (h1 : IsUpds w av n cn us) :
    Calls Try.prog 9 #[.slice av n cn, .int .i64 tr] w fun e w' => NdW w w' e (M1.fors us tr) ∧ Below w.heap.size w w' := by
  obtain ⟨S, hSe⟩ : ∃ S, Hid (M1.sps us tr = S) := ⟨_, rfl⟩
  obtain ⟨m, hm⟩ : ∃ m, Hid (S.length = m) := ⟨_, rfl⟩
  have hm60 : m ≤ 60 := by have := M1.sps_60 us tr; rw [hSe.out, hm.out] at this; exact this
  have HSO : Hid (S.Pairwise M1.idlt) := (by rw [← hSe.out]; exact M1.sps_sorted us tr : S.Pairwise M1.idlt)
  have HF : Hid (M1.fors us tr = M1.forest S) := (by unfold M1.fors; rw [hSe.out] : _ = _)
  have hroom : m + m * (1 + m * m) ≤ 1000000000 := by
    have q1 : m * m ≤ 60 * 60 := Nat.mul_le_mul hm60 hm60
    have q2 : m * (1 + m * m) ≤ 60 * (1 + 60 * 60) := Nat.mul_le_mul hm60 (by omega)
    omega
  go_enter Try.func9, Try.ntmps9
  go_wp2_with fail
  have c1 := spansOf_impl _ _ _ _ tr _ h1
  rw [hSe.out] at c1
  refine c1.mono ?_
  clear c1
  rintro e w1 ⟨⟨a1, k1, rfl, mg1⟩, hb1⟩
  rw [hm.out] at mg1 ⊢
  have hs1 := hb1.size
  have sp1 := SpIn.of_mg (B := w1.heap.size) hm.out mg1 (Nat.le_refl _)
  go_wp2_with fail
  refine (spansById_any _ _ _ _ S _ sp1 (Nat.le_refl _) HSO.out (by omega)).mono ?_
  rintro e w2 ⟨rfl, map2, hb2⟩
  have hs2 := hb2.size
  have hml := map2.lt
  have bI3 := Boxed.new w2 48 (.map (some w1.heap.size))
  have hb3 : Below w2.heap.size w2 (w2.alloc (.cells #[.map (some w1.heap.size)] 48)) := (Below.refl _ _).alloc (Nat.le_refl _) _
  have hz3 : Hid ((w2.alloc (.cells #[.map (some w1.heap.size)] 48)).heap.size = w2.heap.size + 1) := (by simp : _ = _)
  go_upto_region 3 with fail
  obtain ⟨w3, hw3⟩ : ∃ w3, w2.alloc (.cells #[.map (some w1.heap.size)] 48) = w3 := ⟨_, rfl⟩
  rw [hw3] at bI3 hb3 hz3 ⊢
  clear hw3
  have sp3 := (sp1.below hb2).below (hb3.mono hs2)
  go_wp2_with fail
  refine (spansByStart_any _ _ _ _ S _ sp3 HSO.out (by omega)).mono ?_
  rintro e w4 ⟨⟨bv, bc, rfl, mg4⟩, hb4⟩
  have hs4 := hb4.size
  have hs3 := hb3.size
  have hl4 : Hid ((M1.bySt S).length = m) := ((M1.bySt_perm S).length_eq.trans hm.out)
  have hlt4 : ∀ g, bv = some ⟨g, 0, none⟩ → g < w4.heap.size := fun g e => by
    rcases mg4.2.2 with ⟨_, h0⟩ | ⟨g2, e2, _, h3, _⟩
    · rw [h0] at e; cases e
    · rw [e2] at e; injection e with e; injection e with e _ _; omega
  have sp4 := SpIn.of_mg (B := w4.heap.size + 3) hl4.out mg4 (by omega)
  have spS4 := sp3.below (hb4.mono (by omega))
  have map4 : MapS w4 w1.heap.size S := (map2.below hb3 hml).below hb4 (by omega)
  have bI4 : Boxed w4 w2.heap.size 48 (.map (some w1.heap.size)) := (hb4.block _ (by have := bI3.lt; omega)).trans bI3
  have hB4 : Below w.heap.size w w4 := ((hb1.trans (hb2.mono hs1)).trans (hb3.mono (by omega))).trans (hb4.mono (by omega))
  have hs3' := hz3.out
  clear mg4 mg1 map2 bI3 sp1 sp3 hz3
  have hA : Below w4.heap.size w4 (((w4.alloc (.cells #[.slice bv m bc] 31)).alloc (.cells #[.slice none 0 0] 27)).alloc (.cells #[.nilFunc] 51)) := (((Below.refl _ _).alloc (Nat.le_refl _) _).alloc (by simp) _).alloc (by simp; omega) _
  have bS5 := ((Boxed.new w4 31 (.slice bv m bc)).alloc (.cells #[.slice none 0 0] 27)).alloc (.cells #[.nilFunc] 51)
  have bN5 := (Boxed.new (w4.alloc (.cells #[.slice bv m bc] 31)) 27 (.slice none 0 0)).alloc (.cells #[.nilFunc] 51)
  have bG5 := Boxed.new ((w4.alloc (.cells #[.slice bv m bc] 31)).alloc (.cells #[.slice none 0 0] 27)) 51 .nilFunc
  have hz5 : Hid ((((w4.alloc (.cells #[.slice bv m bc] 31)).alloc (.cells #[.slice none 0 0] 27)).alloc (.cells #[.nilFunc] 51)).heap.size = w4.heap.size + 3) := (by simp : _ = _)
  simp only [World.size_alloc] at bN5 bG5
  go_upto_region 6 with fail
  obtain ⟨W4, hW4⟩ : ∃ W, ((w4.alloc (.cells #[.slice bv m bc] 31)).alloc (.cells #[.slice none 0 0] 27)).alloc (.cells #[.nilFunc] 51) = W := ⟨_, rfl⟩
  rw [hW4] at hA bS5 bN5 bG5 hz5 ⊢
  clear hW4
  have cG4 := bG5.cell
  have fG4 := bG5.frozen
  replace bS5 := bS5.other (B' := w4.heap.size + 1 + 1) (by omega) (.func (.func 31) #[] #[.pointer (some ⟨w4.heap.size + 1, 0, none⟩), .pointer (some ⟨w4.heap.size, 0, none⟩), .pointer (some ⟨w2.heap.size, 0, none⟩), .pointer (some ⟨w4.heap.size + 1 + 1, 0, none⟩)])
  replace bN5 := bN5.other (B' := w4.heap.size + 1 + 1) (by omega) (.func (.func 31) #[] #[.pointer (some ⟨w4.heap.size + 1, 0, none⟩), .pointer (some ⟨w4.heap.size, 0, none⟩), .pointer (some ⟨w2.heap.size, 0, none⟩), .pointer (some ⟨w4.heap.size + 1 + 1, 0, none⟩)])
  replace bG5 := bG5.set (.func (.func 31) #[] #[.pointer (some ⟨w4.heap.size + 1, 0, none⟩), .pointer (some ⟨w4.heap.size, 0, none⟩), .pointer (some ⟨w2.heap.size, 0, none⟩), .pointer (some ⟨w4.heap.size + 1 + 1, 0, none⟩)])
  replace hA := hA.setCell (p := ⟨w4.heap.size + 1 + 1, 0, none⟩) (by show w4.heap.size ≤ w4.heap.size + 1 + 1; omega) (.func (.func 31) #[] #[.pointer (some ⟨w4.heap.size + 1, 0, none⟩), .pointer (some ⟨w4.heap.size, 0, none⟩), .pointer (some ⟨w2.heap.size, 0, none⟩), .pointer (some ⟨w4.heap.size + 1 + 1, 0, none⟩)])
  replace hz5 : Hid ((W4.setCell ⟨w4.heap.size + 1 + 1, 0, none⟩ (.func (.func 31) #[] #[.pointer (some ⟨w4.heap.size + 1, 0, none⟩), .pointer (some ⟨w4.heap.size, 0, none⟩), .pointer (some ⟨w2.heap.size, 0, none⟩), .pointer (some ⟨w4.heap.size + 1 + 1, 0, none⟩)])).heap.size = w4.heap.size + 3) := (by simp [World.setCell]; exact hz5.out : _ = _)
  go_upto_region 7 with fail
  clear cG4 fG4
  obtain ⟨W5, hW5⟩ : ∃ W, W4.setCell ⟨w4.heap.size + 1 + 1, 0, none⟩ (.func (.func 31) #[] #[.pointer (some ⟨w4.heap.size + 1, 0, none⟩), .pointer (some ⟨w4.heap.size, 0, none⟩), .pointer (some ⟨w2.heap.size, 0, none⟩), .pointer (some ⟨w4.heap.size + 1 + 1, 0, none⟩)]) = W := ⟨_, rfl⟩
  rw [hW5] at hA bS5 bN5 bG5 hz5 ⊢
  clear hW5
  have hs5 := hz5.out
  have fix5 : GFix W5 (w4.heap.size + 3) (w4.heap.size + 1) w4.heap.size w2.heap.size (w4.heap.size + 2) w1.heap.size m bv bc S := by
    refine ⟨bS5, (hA.block _ bI4.lt).trans bI4, bG5, sp4.same' (fun k hk e => hA.block k (hlt4 k e)), map4.below hA (by omega), ?_, by omega⟩
    rintro k (rfl | rfl | rfl | rfl | e)
    · omega
    · omega
    · omega
    · omega
    · have := hlt4 k e; omega
  have own5 : W5.ownsRow (w4.heap.size + 3) 36 6 (.slice none 0 0) 0 (nL []) := ⟨rfl, Or.inl ⟨rfl, rfl⟩⟩
  have spS5 := spS4.below (hA.mono (show w1.heap.size ≤ w4.heap.size by omega))
  have hB5 := hB4.trans (hA.mono (by omega))
  clear sp4 spS4 map4 bI4 bS5 bG5 hlt4 hb1 hb2 hb3 hb4 hB4 hA hz5
  go_wp2_with fail
  go_loopw [22] (fun iv wr => ∃ (i : Nat) (v : Value), i ≤ m ∧ iv = .int .i64 i ∧ GNo wr (w4.heap.size + 3) (w4.heap.size + 1) v (M1.forTo S i) ∧ Trn (w4.heap.size + 1) (.slice none 0 0) v W5 wr) (fun iv _ => m - (intOf iv).toNat)
  case atStart => exact ⟨0, _, Nat.zero_le _, rfl, ⟨bN5, own5⟩, Trn.refl _ _ _⟩
  case round =>
    obtain ⟨i, v, hi, rfl, no, trn⟩ := hrel
    have fixr := fix5.trn trn own5
    have hszr := trn.size
    have hn0 : ∀ k, (Value.slice none 0 0).ownBlock = some k → w4.heap.size + 1 ≤ k := fun k e => by simp [Value.ownBlock] at e
    have hBr : Below w4.heap.size W5 wr := trn.to_below (by omega) (by omega) (fun k e => by have := hn0 k e; omega)
    by_cases hlt : i < m
    · have sp := spS5.below (hBr.mono (show w1.heap.size ≤ w4.heap.size by omega))
      rcases sp.lies with h0 | ⟨g, rfl, hgB, r1⟩
      · omega
      have hgl := r1.lt
      have i0 : (0 : Int) ≤ (i : Int) := by omega
      have i1 : (i : Int) < (m : Int) := by omega
      have hiS : i < S.length := by rw [hm.out]; exact hlt
      have huS : M1.up S i ∈ S := M1.up_in hiS
      have HST : Hid (M1.forTo S (i + 1) = M1.forTo S i ++ (if M1.rootB S (M1.up S i) = true then M1.growF S m (M1.up S i) 0 else [])) := (by have := M1.forTo_step hiS; rw [hm.out] at this; exact this : _ = _)
      have hlen : (M1.forTo S i).length ≤ m := by have := M1.for_len HSO.out (i := i) (by omega); rw [hm.out] at this; exact this
      obtain ⟨u, hu⟩ : ∃ u, Hid (M1.up S i = u) := ⟨_, rfl⟩
      have d0 := r1.cell (o := i * 5) (by omega)
      have d1 := r1.cell (o := i * 5 + 1) (by omega)
      have d2 := r1.cell (o := i * 5 + 2) (by omega)
      have d3 := r1.cell (o := i * 5 + 3) (by omega)
      have d4 := r1.cell (o := i * 5 + 4) (by omega)
      rw [show scell S (i * 5) = .int .i64 (M1.up S i).id from scell_at S i 0 (by omega), hu.out] at d0
      rw [show scell S (i * 5 + 1) = .int .i64 (M1.up S i).pa from scell_at S i 1 (by omega), hu.out] at d1
      rw [show scell S (i * 5 + 2) = .string (M1.up S i).s from scell_at S i 2 (by omega), hu.out] at d2
      rw [show scell S (i * 5 + 3) = .int .i64 (M1.up S i).st from scell_at S i 3 (by omega), hu.out] at d3
      rw [show scell S (i * 5 + 4) = .int .i64 (M1.up S i).en from scell_at S i 4 (by omega), hu.out] at d4
      rw [hu.out] at HST huS
      have hA6 : Below wr.heap.size wr (wr.alloc (.cells #[.int .i64 u.id, .int .i64 u.pa, .string u.s, .int .i64 u.st, .int .i64 u.en] 34)) := (Below.refl _ _).alloc (Nat.le_refl _) _
      have bX := SBox.new wr u
      go_upto_region 10 with fail
      obtain ⟨W6, hW6⟩ : ∃ W, wr.alloc (.cells #[.int .i64 u.id, .int .i64 u.pa, .string u.s, .int .i64 u.st, .int .i64 u.en] 34) = W := ⟨_, rfl⟩
      rw [hW6] at hA6 bX ⊢
      clear hW6 d0 d1 d2 d3 d4 r1
      have fix6 := fixr.same (by have := hA6.size; omega) (fun k hk _ => hA6.block k (by omega))
      obtain ⟨x0, x1, x2, x3, x4⟩ := bX.cell
      have hXl := bX.lt
      have cI := fix6.bI.cell
      have hIl := fix6.bI.lt
      have trn6 := trn.trans (Trn.below (N := w4.heap.size + 1) (v := v) hA6)
      have no6 : GNo W6 (w4.heap.size + 3) (w4.heap.size + 1) v (M1.forTo S i) := ⟨(hA6.block _ no.1.lt).trans no.1, owns_below no.2 hA6⟩
      clear sp no trn fixr
      go_wp2_with fail
      refine (isRoot_any u w1.heap.size m S _ fix6.map hm (by omega)).mono ?_
      rintro e W7 ⟨rfl, hb7⟩
      have hz7 := hb7.size
      have hs6 := hA6.size
      have fix7 := fix6.same (by omega) (fun k hk _ => hb7.block k (by omega))
      have trn7 := trn6.trans (Trn.below (N := w4.heap.size + 1) (v := v) hb7)
      have no7 : GNo W7 (w4.heap.size + 3) (w4.heap.size + 1) v (M1.forTo S i) := ⟨(hb7.block _ no6.1.lt).trans no6.1, owns_below no6.2 hb7⟩
      have bX7 : SBox W7 wr.heap.size u := bX.same (hb7.block _ hXl)
      clear x0 x1 x2 x3 x4 cI
      obtain ⟨x0, x1, x2, x3, x4⟩ := bX7.cell
      have hX7 := bX7.lt
      have cG := fix7.bG.cell
      have hGl := fix7.bG.lt
      clear no6 trn6 fix6 bX hA6 hb7
      cases hq : M1.rootB S u with
      | false =>
        have HE : Hid (M1.forTo S (i + 1) = M1.forTo S i) := (by rw [HST.out, hq]; simp : _ = _)
        clear hq
        go_wp2_with fail
        exact ⟨⟨i + 1, v, by omega, by go_num, by rw [HE.out]; exact no7, trn7⟩, by simp [intOf]; omega⟩
      | true =>
        have HE : Hid (M1.forTo S (i + 1) = M1.forTo S i ++ M1.growF S m u ((0 : Nat) : Int)) := (by rw [HST.out, hq]; simp : _ = _)
        have HR : Hid (M1.rootB S u = true) := hq
        clear hq
        go_wp2_with fail
        refine (grow_any HSO.out hm (by omega) huS HR m 0 u v (M1.forTo S i) W7 (by omega) huS (M1.sub_refl S u) (by omega) fix7 no7).mono ?_
        rintro e W8 ⟨rfl, v', no8, trn8⟩
        have trn9 := trn7.trans trn8
        clear no7 trn7 trn8
        go_wp2_with fail
        exact ⟨⟨i + 1, v', by omega, by go_num, by rw [HE.out]; exact no8, trn9⟩, by simp [intOf]; omega⟩
    · have him : i = m := by omega
      have HE : Hid (M1.fors us tr = M1.forTo S i) := (by rw [HF.out]; unfold M1.forest; rw [hm.out, him] : _ = _)
      have hBf := hB5.trans (hBr.mono (by omega))
      obtain ⟨z, hz⟩ : ∃ z, Hid ((M1.forTo S i).length = z) := ⟨_, rfl⟩
      obtain ⟨bN, ow⟩ := no
      rw [hz.out] at ow
      obtain ⟨va, vc, hve⟩ : ∃ va vc, v = .slice va z vc := by
        rcases ow.2 with ⟨hv0, hn0⟩ | ⟨g, cap, cur, hv, _⟩
        · exact ⟨none, 0, by rw [hv0, hn0]⟩
        · exact ⟨_, _, hv⟩
      subst hve
      have mn := MN.of_owns hz.out ow
      have cN := bN.cell
      have hNl := bN.lt
      clear him
      go_wp2_with fail
      go_ret
      refine ⟨⟨va, vc, ?_, ?_⟩, hBf⟩
      · rw [HE.out, hz.out]; rfl
      · rw [HE.out, hz.out]; exact mn.wide (by omega) (Nat.le_refl _)
end Go.Proofs.Ytdpeopmbboogaaa
