/-
  The contracts of the model's and the program's SegmentOf.
-/
import Derived.Test.YtjgcjopijblpkaaDoorZSegmentOf25
import Derived.Test.YtjgcjopijblpkaaDoorZSegmentOf39
namespace M1
/-- The frames of the first k updates, one behind the other. -/
def segTo (us : List Upd) : Nat → ByteArray
  | 0 => ByteArray.empty
  | k + 1 => segTo us k ++ frame (mkB (txt (up us k)))
def segOk (us : List Upd) : Bool := decide (us.length ≤ 60) && allR us
def seg (us : List Upd) : ByteArray := if segOk us = true then segTo us us.length else ByteArray.empty
theorem frame_size (s : ByteArray) : (frame s).size ≤ 205 := by
  unfold frame
  split
  · simp
  · rw [ByteArray.size_append, ByteArray.size_append, by1_size, sumT_size]
    omega
theorem segTo_size (us : List Upd) : ∀ k, (segTo us k).size ≤ 205 * k
  | 0 => by simp [segTo]
  | k + 1 => by
    have h1 := segTo_size us k
    have h2 := frame_size (mkB (txt (up us k)))
    show (segTo us k ++ frame (mkB (txt (up us k)))).size ≤ _
    rw [ByteArray.size_append]
    omega
end M1
namespace Go.Proofs.YtjgcjopijblpkaaDoor
open Go.ChangeShapes Go.WideShapes Go.ChangeAt Go.RowKit
set_option linter.unusedSimpArgs false
set_option linter.unusedVariables false

set_option maxHeartbeats 8000000 in
set_option maxRecDepth 100000 in
theorem segmentOf_spec (av : Option Addr) (n cn : Nat) (us : List M1.Upd) (w : World) (h1 : IsUpds w av n cn us) :
    Calls Tryd.prog 19 #[.slice av n cn] w fun e w' => e = .returned (.tuple #[.string (M1.seg us), .bool (M1.segOk us)]) ∧ Below w.heap.size w w' := by
  have hl1 : Hid (us.length = n) := h1.hlen
  have hm1 := h1.hcap
  have hm2 := h1.hmost
  unfold maxLen at hm2
  by_cases hn : n ≤ 60
  · go_enter Tryd.func19, Tryd.ntmps19
    go_wp2_with fail
    go_loopw [4, 5] (fun sv iv wr => ∃ (k : Nat) (x : ByteArray), k ≤ n ∧ iv = .int .i64 k ∧ sv = .string x ∧ x.size ≤ 205 * k ∧ Hid (M1.segTo us k = x) ∧ Hid (∀ j, j < k → M1.okU (M1.up us j) = true) ∧ Below w.heap.size w wr) (fun _ iv _ => n - (intOf iv).toNat)
    case atStart => exact ⟨0, _, Nat.zero_le _, rfl, rfl, (by decide), rfl, (fun j hj => absurd hj (Nat.not_lt_zero _)), Below.refl _ _⟩
    case round =>
      obtain ⟨k, x, hk, rfl, rfl, hx, hsx, hall, hB⟩ := hrel
      by_cases hlt : k < n
      · have g1 := h1.below hB
        rcases g1.hlies with h0 | ⟨b, off, rfl, hb, hc⟩
        · omega
        have hcc := hc k hlt
        have hs := h1.htxt k hlt
        have i0 : (0 : Int) ≤ (k : Int) := by omega
        have i1 : (k : Int) < (n : Int) := by omega
        have HST : Hid (M1.segTo us (k + 1) = x ++ M1.frame (M1.mkB (M1.txt (M1.up us k)))) := (by rw [← hsx.out]; rfl : _ = _)
        obtain ⟨u, hu⟩ : ∃ u, Hid (M1.up us k = u) := ⟨_, rfl⟩
        rw [hu.out] at hcc hs HST
        obtain ⟨c0, c1, c2, c3, c4, c5, c6, c7, c8, c9, c10, c11, c12⟩ := hcc
        obtain ⟨ok, hok⟩ : ∃ b, Hid (M1.okU u = b) := ⟨_, rfl⟩
        clear hc
        go_wp2_with fail
        refine (updateOk_spec u.dr u.dn u.sw u.sc u.sr u.k u.tr u.id u.pa u.st u.en u.lv u.s _ hs).mono ?_
        rw [show M1.updB u.dr u.dn u.sw u.sc u.sr u.k u.tr u.id u.pa u.s u.st u.en u.lv = ok from hok.out]
        rintro e w1 ⟨rfl, hb1⟩
        have hB1 := hB.trans (hb1.mono hB.size)
        cases ok with
        | false =>
          have HN : Hid (M1.segOk us = false) := (by
            unfold M1.segOk
            have : M1.allR us = false := M1.allR_no (by rw [hl1.out]; exact hlt) (by rw [hu.out]; exact hok.out)
            rw [this]; simp : _ = _)
          have HS : Hid (M1.seg us = ByteArray.empty) := (by unfold M1.seg; rw [HN.out]; rfl : _ = _)
          go_wp2_with fail
          refine bodyPost_ret (v := .tuple #[.string ByteArray.empty, .bool false]) (by simp [results, Tryd.results19, go_sem]; rfl) rfl ?_
          exact ⟨by rw [HS.out, HN.out], hB1⟩
        | true =>
          have HQ : Hid (∀ j, j < k + 1 → M1.okU (M1.up us j) = true) := fun j hj => by
            by_cases e : j = k
            · rw [e, hu.out]; exact hok.out
            · exact hall.out j (by omega)
          have g2 := h1.below hB1
          rcases g2.hlies with h0 | ⟨b2, off2, e2, hb2, hc2⟩
          · omega
          injection e2 with e2
          injection e2 with e2 e3 _
          subst e2; subst e3
          have hcc2 := hc2 k hlt
          rw [hu.out] at hcc2
          clear c0 c1 c2 c3 c4 c5 c6 c7 c8 c9 c10 c11 c12 hc2
          obtain ⟨c0, c1, c2, c3, c4, c5, c6, c7, c8, c9, c10, c11, c12⟩ := hcc2
          go_wp2_with fail
          refine (l2Text_any u _ hok.out).mono ?_
          rintro e w2 ⟨rfl, hb2⟩
          have hB2 := hB1.trans (hb2.mono hB1.size)
          have htl : (M1.mkB (M1.txt u)).size ≤ maxLen := by rw [M1.mkB_size]; have := M1.txt_len hok.out; unfold maxLen; omega
          go_wp2_with fail
          refine (frameOf_spec _ _ htl).mono ?_
          rintro e w3 ⟨rfl, hb3⟩
          have hB3 := hB2.trans (hb3.mono hB2.size)
          have hfs := M1.frame_size (M1.mkB (M1.txt u))
          obtain ⟨f, hf⟩ : ∃ f, Hid (M1.frame (M1.mkB (M1.txt u)) = f) := ⟨_, rfl⟩
          rw [hf.out] at hfs HST ⊢
          have hsz : (x ++ f).size ≤ 205 * (k + 1) := by rw [ByteArray.size_append]; omega
          clear c0 c1 c2 c3 c4 c5 c6 c7 c8 c9 c10 c11 c12
          go_wp2_with fail
          exact ⟨⟨k + 1, x ++ f, by omega, by go_num, rfl, hsz, HST, HQ, hB3⟩, by simp [intOf]; omega⟩
      · have hkn : k = n := by omega
        have HA : Hid (M1.segOk us = true) := (by
          unfold M1.segOk
          have : M1.allR us = true := M1.allR_yes fun j hj => hall.out j (by rw [hl1.out] at hj; omega)
          rw [this, hl1.out]; simp [hn] : _ = _)
        have HS : Hid (M1.seg us = x) := (by unfold M1.seg; rw [HA.out, hl1.out, ← hkn, hsx.out]; rfl : _ = _)
        go_wp2_with fail
        refine bodyPost_ret (v := .tuple #[.string x, .bool true]) (by simp [results, Tryd.results19, go_sem]) rfl ?_
        exact ⟨by rw [HS.out, HA.out], hB⟩
  · have HN : Hid (M1.segOk us = false) := (by unfold M1.segOk; rw [hl1.out]; simp [hn] : _ = _)
    have HS : Hid (M1.seg us = ByteArray.empty) := (by unfold M1.seg; rw [HN.out]; rfl : _ = _)
    go_enter Tryd.func19, Tryd.ntmps19
    go_wp2_with fail
    refine bodyPost_ret (v := .tuple #[.string ByteArray.empty, .bool false]) (by simp [results, Tryd.results19, go_sem]; rfl) rfl ?_
    exact ⟨by rw [HS.out, HN.out], Below.refl _ _⟩

set_option maxHeartbeats 8000000 in
set_option maxRecDepth 100000 in
theorem segmentOf_impl (av : Option Addr) (n cn : Nat) (us : List M1.Upd) (w : World) (h1 : IsUpds w av n cn us) (tab : Tab w.heap.size w) :
    Calls Tryd.prog 21 #[.slice av n cn] w fun e w' => e = .returned (.tuple #[.string (M1.seg us), .bool (M1.segOk us)]) ∧ Below w.heap.size w w' := by
  have hl1 : Hid (us.length = n) := h1.hlen
  have hm1 := h1.hcap
  have hm2 := h1.hmost
  unfold maxLen at hm2
  by_cases hn : n ≤ 60
  · obtain ⟨ok, hok⟩ : ∃ b, Hid (M1.allR us = b) := ⟨_, rfl⟩
    go_enter Tryd.func21, Tryd.ntmps21
    go_wp2_with fail
    refine (allRight_any _ _ _ _ _ h1).mono ?_
    rw [hok.out]
    rintro e w1 ⟨rfl, hb1⟩
    cases ok with
    | false =>
      have HN : Hid (M1.segOk us = false) := (by unfold M1.segOk; rw [hok.out]; simp : _ = _)
      have HS : Hid (M1.seg us = ByteArray.empty) := (by unfold M1.seg; rw [HN.out]; rfl : _ = _)
      go_wp2_with fail
      refine bodyPost_ret (v := .tuple #[.string ByteArray.empty, .bool false]) (by simp [results, Tryd.results21, go_sem]; rfl) rfl ?_
      exact ⟨by rw [HS.out, HN.out], hb1⟩
    | true =>
      have HA : Hid (M1.segOk us = true) := (by unfold M1.segOk; rw [hok.out, hl1.out]; simp [hn] : _ = _)
      go_wp2_with fail
      go_loopw [4, 17] (fun sv iv wr => ∃ (k : Nat) (x : ByteArray), k ≤ n ∧ iv = .int .i64 k ∧ sv = .string x ∧ x.size ≤ 205 * k ∧ Hid (M1.segTo us k = x) ∧ Below w.heap.size w wr) (fun _ iv _ => n - (intOf iv).toNat)
      case atStart => exact ⟨0, _, Nat.zero_le _, rfl, rfl, (by decide), rfl, hb1⟩
      case round =>
        obtain ⟨k, x, hk, rfl, rfl, hx, hsx, hB⟩ := hrel
        have hsB := hB.size
        by_cases hlt : k < n
        · have g1 := h1.below hB
          rcases g1.hlies with h0 | ⟨b, off, rfl, hb, hc⟩
          · omega
          have hcc := hc k hlt
          have hs := h1.htxt k hlt
          have i0 : (0 : Int) ≤ (k : Int) := by omega
          have i1 : (k : Int) < (n : Int) := by omega
          have hoku := M1.allR_all hok.out k (by rw [hl1.out]; exact hlt)
          have HST : Hid (M1.segTo us (k + 1) = x ++ M1.frame (M1.mkB (M1.txt (M1.up us k)))) := (by rw [← hsx.out]; rfl : _ = _)
          obtain ⟨u, hu⟩ : ∃ u, Hid (M1.up us k = u) := ⟨_, rfl⟩
          rw [hu.out] at hcc hs HST hoku
          have HUT : Hid (M1.utx u = M1.mkB (M1.txt u)) := (by unfold M1.utx; rw [hoku]; rfl : _ = _)
          obtain ⟨c0, c1, c2, c3, c4, c5, c6, c7, c8, c9, c10, c11, c12⟩ := hcc
          clear hc
          have hA : Below wr.heap.size wr (wr.alloc (.cells #[.int .i64 u.dr, .int .i64 u.dn, .int .i64 u.sw, .int .i64 u.sc, .int .i64 u.sr, .int .i64 u.k, .int .i64 u.tr, .int .i64 u.id, .int .i64 u.pa, .string u.s, .int .i64 u.st, .int .i64 u.en, .int .i64 u.lv] 31)) := (Below.refl _ _).alloc (Nat.le_refl _) _
          have row0 : RowAt (wr.alloc (.cells #[.int .i64 u.dr, .int .i64 u.dn, .int .i64 u.sw, .int .i64 u.sc, .int .i64 u.sr, .int .i64 u.k, .int .i64 u.tr, .int .i64 u.id, .int .i64 u.pa, .string u.s, .int .i64 u.st, .int .i64 u.en, .int .i64 u.lv] 31)) wr.heap.size 13 (fun o => (#[.int .i64 u.dr, .int .i64 u.dn, .int .i64 u.sw, .int .i64 u.sc, .int .i64 u.sr, .int .i64 u.k, .int .i64 u.tr, .int .i64 u.id, .int .i64 u.pa, .string u.s, .int .i64 u.st, .int .i64 u.en, .int .i64 u.lv] : Array Value).getD o undef) := RowAt.new wr _ _
          go_upto_region 7 with fail
          obtain ⟨W0, hW0⟩ : ∃ W, wr.alloc (.cells #[.int .i64 u.dr, .int .i64 u.dn, .int .i64 u.sw, .int .i64 u.sc, .int .i64 u.sr, .int .i64 u.k, .int .i64 u.tr, .int .i64 u.id, .int .i64 u.pa, .string u.s, .int .i64 u.st, .int .i64 u.en, .int .i64 u.lv] 31) = W := ⟨_, rfl⟩
          rw [hW0] at hA row0 ⊢
          clear hW0 c0 c1 c2 c3 c4 c5 c6 c7 c8 c9 c10 c11 c12
          have c0 := row0.cell (o := 0) (by omega)
          have c1 := row0.cell (o := 1) (by omega)
          have c2 := row0.cell (o := 2) (by omega)
          have c3 := row0.cell (o := 3) (by omega)
          have c4 := row0.cell (o := 4) (by omega)
          have c5 := row0.cell (o := 5) (by omega)
          have c6 := row0.cell (o := 6) (by omega)
          have c7 := row0.cell (o := 7) (by omega)
          have c8 := row0.cell (o := 8) (by omega)
          have c9 := row0.cell (o := 9) (by omega)
          have c10 := row0.cell (o := 10) (by omega)
          have c11 := row0.cell (o := 11) (by omega)
          have c12 := row0.cell (o := 12) (by omega)
          simp at c0 c1 c2 c3 c4 c5 c6 c7 c8 c9 c10 c11 c12
          have cl := row0.lt
          have hB0 := hB.trans (hA.mono hsB)
          go_wp2_with fail
          refine (updateText_impl u _ hs (tab_more (tab.on hB0) hB0.size)).mono ?_
          rw [HUT.out]
          rintro e w2 ⟨rfl, hb2⟩
          have hB2 := hB0.trans (hb2.mono hB0.size)
          have htl : (M1.mkB (M1.txt u)).size ≤ maxLen := by rw [M1.mkB_size]; have := M1.txt_len hoku; unfold maxLen; omega
          clear c0 c1 c2 c3 c4 c5 c6 c7 c8 c9 c10 c11 c12 cl
          go_wp2_with fail
          refine (frameOf_impl _ _ htl).mono ?_
          rintro e w3 ⟨rfl, hb3⟩
          have hB3 := hB2.trans (hb3.mono hB2.size)
          have hfs := M1.frame_size (M1.mkB (M1.txt u))
          obtain ⟨f, hf⟩ : ∃ f, Hid (M1.frame (M1.mkB (M1.txt u)) = f) := ⟨_, rfl⟩
          rw [hf.out] at hfs HST ⊢
          have hsz : (x ++ f).size ≤ 205 * (k + 1) := by rw [ByteArray.size_append]; omega
          go_wp2_with fail
          exact ⟨⟨k + 1, x ++ f, by omega, by go_num, rfl, hsz, HST, hB3⟩, by simp [intOf]; omega⟩
        · have hkn : k = n := by omega
          have HS : Hid (M1.seg us = x) := (by unfold M1.seg; rw [HA.out, hl1.out, ← hkn, hsx.out]; rfl : _ = _)
          go_wp2_with fail
          refine bodyPost_ret (v := .tuple #[.string x, .bool true]) (by simp [results, Tryd.results21, go_sem]) rfl ?_
          exact ⟨by rw [HS.out, HA.out], hB⟩
  · have HN : Hid (M1.segOk us = false) := (by unfold M1.segOk; rw [hl1.out]; simp [hn] : _ = _)
    have HS : Hid (M1.seg us = ByteArray.empty) := (by unfold M1.seg; rw [HN.out]; rfl : _ = _)
    go_enter Tryd.func21, Tryd.ntmps21
    go_wp2_with fail
    refine bodyPost_ret (v := .tuple #[.string ByteArray.empty, .bool false]) (by simp [results, Tryd.results21, go_sem]; rfl) rfl ?_
    exact ⟨by rw [HS.out, HN.out], Below.refl _ _⟩
end Go.Proofs.YtjgcjopijblpkaaDoor
