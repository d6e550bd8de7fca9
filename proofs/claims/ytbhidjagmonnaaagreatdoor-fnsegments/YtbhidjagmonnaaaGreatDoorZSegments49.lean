/-
  Texts of one proof, joined: Sg1, AppU, Ds1.
-/
import Derived.Test.YtbhidjagmonnaaaGreatDoorZSegments16
import Derived.Test.YtbhidjagmonnaaaGreatDoorZSegments38
import Derived.Test.YtbhidjagmonnaaaGreatDoorZSegments21
import Derived.Test.YtbhidjagmonnaaaGreatDoorZSegments47
import Derived.Test.YtbhidjagmonnaaaGreatDoorZSegments48
import Derived.OwnWalk
namespace M1
/-- The frames of the first k updates, one behind the other. -/
def segTo (us : List Upd) : Nat → ByteArray
  | 0 => ByteArray.empty
  | k + 1 => segTo us k ++ frame (mkB (txt (up us k)))
def segOk (us : List Upd) : Bool := decide (us.length ≤ 60) && allR us
def seg (us : List Upd) : ByteArray := if segOk us = true then segTo us us.length else ByteArray.empty
theorem frame_size (s : ByteArray) : (frame s).size ≤ 205 := by
  unfold frame
  split
  · simp
  · rw [ByteArray.size_append, ByteArray.size_append, by1_size, sumT_size]
    omega
theorem segTo_size (us : List Upd) : ∀ k, (segTo us k).size ≤ 205 * k
  | 0 => by simp [segTo]
  | k + 1 => by
    have h1 := segTo_size us k
    have h2 := frame_size (mkB (txt (up us k)))
    show (segTo us k ++ frame (mkB (txt (up us k)))).size ≤ _
    rw [ByteArray.size_append]
    omega
end M1
namespace Go.Proofs.YtbhidjagmonnaaaGreatDoor
open Go.ChangeShapes Go.WideShapes Go.ChangeAt Go.RowKit
set_option linter.unusedSimpArgs false
set_option linter.unusedVariables false

set_option maxHeartbeats 8000000 in
set_option maxRecDepth 100000 in
theorem segmentOf_spec (av : Option Addr) (n cn : Nat) (us : List M1.Upd) (w : World) (h1 : IsUpds w av n cn us) :
    Calls Tryz.prog 9 #[.slice av n cn] w fun e w' => e = .returned (.tuple #[.string (M1.seg us), .bool (M1.segOk us)]) ∧ Below w.heap.size w w' := by
  have hl1 : Hid (us.length = n) := h1.hlen
  have hm1 := h1.hcap
  have hm2 := h1.hmost
  unfold maxLen at hm2
  by_cases hn : n ≤ 60
  · go_enter Tryz.func9, Tryz.ntmps9
    go_wp2_with fail
    go_loopw [4, 5] (fun sv iv wr => ∃ (k : Nat) (x : ByteArray), k ≤ n ∧ iv = .int .i64 k ∧ sv = .string x ∧ x.size ≤ 205 * k ∧ Hid (M1.segTo us k = x) ∧ Hid (∀ j, j < k → M1.okU (M1.up us j) = true) ∧ Below w.heap.size w wr) (fun _ iv _ => n - (intOf iv).toNat)
    case atStart => exact ⟨0, _, Nat.zero_le _, rfl, rfl, (by decide), rfl, (fun j hj => absurd hj (Nat.not_lt_zero _)), Below.refl _ _⟩
    case round =>
      obtain ⟨k, x, hk, rfl, rfl, hx, hsx, hall, hB⟩ := hrel
      by_cases hlt : k < n
      · have g1 := h1.below hB
        rcases g1.hlies with h0 | ⟨b, off, rfl, hb, hc⟩
        · omega
        have hcc := hc k hlt
        have hs := h1.htxt k hlt
        have i0 : (0 : Int) ≤ (k : Int) := by omega
        have i1 : (k : Int) < (n : Int) := by omega
        have HST : Hid (M1.segTo us (k + 1) = x ++ M1.frame (M1.mkB (M1.txt (M1.up us k)))) := (by rw [← hsx.out]; rfl : _ = _)
        obtain ⟨u, hu⟩ : ∃ u, Hid (M1.up us k = u) := ⟨_, rfl⟩
        rw [hu.out] at hcc hs HST
        obtain ⟨c0, c1, c2, c3, c4, c5, c6, c7, c8, c9, c10, c11, c12⟩ := hcc
        obtain ⟨ok, hok⟩ : ∃ b, Hid (M1.okU u = b) := ⟨_, rfl⟩
        clear hc
        go_wp2_with fail
        refine (updateOk_spec u.dr u.dn u.sw u.sc u.sr u.k u.tr u.id u.pa u.st u.en u.lv u.s _ hs).mono ?_
        rw [show M1.updB u.dr u.dn u.sw u.sc u.sr u.k u.tr u.id u.pa u.s u.st u.en u.lv = ok from hok.out]
        rintro e w1 ⟨rfl, hb1⟩
        have hB1 := hB.trans (hb1.mono hB.size)
        cases ok with
        | false =>
          have HN : Hid (M1.segOk us = false) := (by
            unfold M1.segOk
            have : M1.allR us = false := M1.allR_no (by rw [hl1.out]; exact hlt) (by rw [hu.out]; exact hok.out)
            rw [this]; simp : _ = _)
          have HS : Hid (M1.seg us = ByteArray.empty) := (by unfold M1.seg; rw [HN.out]; rfl : _ = _)
          go_wp2_with fail
          refine bodyPost_ret (v := .tuple #[.string ByteArray.empty, .bool false]) (by simp [results, Tryz.results9, go_sem]; rfl) rfl ?_
          exact ⟨by rw [HS.out, HN.out], hB1⟩
        | true =>
          have HQ : Hid (∀ j, j < k + 1 → M1.okU (M1.up us j) = true) := fun j hj => by
            by_cases e : j = k
            · rw [e, hu.out]; exact hok.out
            · exact hall.out j (by omega)
          have g2 := h1.below hB1
          rcases g2.hlies with h0 | ⟨b2, off2, e2, hb2, hc2⟩
          · omega
          injection e2 with e2
          injection e2 with e2 e3 _
          subst e2; subst e3
          have hcc2 := hc2 k hlt
          rw [hu.out] at hcc2
          clear c0 c1 c2 c3 c4 c5 c6 c7 c8 c9 c10 c11 c12 hc2
          obtain ⟨c0, c1, c2, c3, c4, c5, c6, c7, c8, c9, c10, c11, c12⟩ := hcc2
          go_wp2_with fail
          refine (l2Text_any u _ hok.out).mono ?_
          rintro e w2 ⟨rfl, hb2⟩
          have hB2 := hB1.trans (hb2.mono hB1.size)
          have htl : (M1.mkB (M1.txt u)).size ≤ maxLen := by rw [M1.mkB_size]; have := M1.txt_len hok.out; unfold maxLen; omega
          go_wp2_with fail
          refine (frameOf_spec _ _ htl).mono ?_
          rintro e w3 ⟨rfl, hb3⟩
          have hB3 := hB2.trans (hb3.mono hB2.size)
          have hfs := M1.frame_size (M1.mkB (M1.txt u))
          obtain ⟨f, hf⟩ : ∃ f, Hid (M1.frame (M1.mkB (M1.txt u)) = f) := ⟨_, rfl⟩
          rw [hf.out] at hfs HST ⊢
          have hsz : (x ++ f).size ≤ 205 * (k + 1) := by rw [ByteArray.size_append]; omega
          clear c0 c1 c2 c3 c4 c5 c6 c7 c8 c9 c10 c11 c12
          go_wp2_with fail
          exact ⟨⟨k + 1, x ++ f, by omega, by go_num, rfl, hsz, HST, HQ, hB3⟩, by simp [intOf]; omega⟩
      · have hkn : k = n := by omega
        have HA : Hid (M1.segOk us = true) := (by
          unfold M1.segOk
          have : M1.allR us = true := M1.allR_yes fun j hj => hall.out j (by rw [hl1.out] at hj; omega)
          rw [this, hl1.out]; simp [hn] : _ = _)
        have HS : Hid (M1.seg us = x) := (by unfold M1.seg; rw [HA.out, hl1.out, ← hkn, hsx.out]; rfl : _ = _)
        go_wp2_with fail
        refine bodyPost_ret (v := .tuple #[.string x, .bool true]) (by simp [results, Tryz.results9, go_sem]) rfl ?_
        exact ⟨by rw [HS.out, HA.out], hB⟩
  · have HN : Hid (M1.segOk us = false) := (by unfold M1.segOk; rw [hl1.out]; simp [hn] : _ = _)
    have HS : Hid (M1.seg us = ByteArray.empty) := (by unfold M1.seg; rw [HN.out]; rfl : _ = _)
    go_enter Tryz.func9, Tryz.ntmps9
    go_wp2_with fail
    refine bodyPost_ret (v := .tuple #[.string ByteArray.empty, .bool false]) (by simp [results, Tryz.results9, go_sem]; rfl) rfl ?_
    exact ⟨by rw [HS.out, HN.out], Below.refl _ _⟩

set_option maxHeartbeats 8000000 in
set_option maxRecDepth 100000 in
theorem segmentOf_impl (av : Option Addr) (n cn : Nat) (us : List M1.Upd) (w : World) (h1 : IsUpds w av n cn us) (tab : Tab w.heap.size w) :
    Calls Tryz.prog 8 #[.slice av n cn] w fun e w' => e = .returned (.tuple #[.string (M1.seg us), .bool (M1.segOk us)]) ∧ Below w.heap.size w w' := by
  have hl1 : Hid (us.length = n) := h1.hlen
  have hm1 := h1.hcap
  have hm2 := h1.hmost
  unfold maxLen at hm2
  by_cases hn : n ≤ 60
  · obtain ⟨ok, hok⟩ : ∃ b, Hid (M1.allR us = b) := ⟨_, rfl⟩
    go_enter Tryz.func8, Tryz.ntmps8
    go_wp2_with fail
    refine (allRight_any _ _ _ _ _ h1).mono ?_
    rw [hok.out]
    rintro e w1 ⟨rfl, hb1⟩
    cases ok with
    | false =>
      have HN : Hid (M1.segOk us = false) := (by unfold M1.segOk; rw [hok.out]; simp : _ = _)
      have HS : Hid (M1.seg us = ByteArray.empty) := (by unfold M1.seg; rw [HN.out]; rfl : _ = _)
      go_wp2_with fail
      refine bodyPost_ret (v := .tuple #[.string ByteArray.empty, .bool false]) (by simp [results, Tryz.results8, go_sem]; rfl) rfl ?_
      exact ⟨by rw [HS.out, HN.out], hb1⟩
    | true =>
      have HA : Hid (M1.segOk us = true) := (by unfold M1.segOk; rw [hok.out, hl1.out]; simp [hn] : _ = _)
      go_wp2_with fail
      go_loopw [4, 17] (fun sv iv wr => ∃ (k : Nat) (x : ByteArray), k ≤ n ∧ iv = .int .i64 k ∧ sv = .string x ∧ x.size ≤ 205 * k ∧ Hid (M1.segTo us k = x) ∧ Below w.heap.size w wr) (fun _ iv _ => n - (intOf iv).toNat)
      case atStart => exact ⟨0, _, Nat.zero_le _, rfl, rfl, (by decide), rfl, hb1⟩
      case round =>
        obtain ⟨k, x, hk, rfl, rfl, hx, hsx, hB⟩ := hrel
        have hsB := hB.size
        by_cases hlt : k < n
        · have g1 := h1.below hB
          rcases g1.hlies with h0 | ⟨b, off, rfl, hb, hc⟩
          · omega
          have hcc := hc k hlt
          have hs := h1.htxt k hlt
          have i0 : (0 : Int) ≤ (k : Int) := by omega
          have i1 : (k : Int) < (n : Int) := by omega
          have hoku := M1.allR_all hok.out k (by rw [hl1.out]; exact hlt)
          have HST : Hid (M1.segTo us (k + 1) = x ++ M1.frame (M1.mkB (M1.txt (M1.up us k)))) := (by rw [← hsx.out]; rfl : _ = _)
          obtain ⟨u, hu⟩ : ∃ u, Hid (M1.up us k = u) := ⟨_, rfl⟩
          rw [hu.out] at hcc hs HST hoku
          have HUT : Hid (M1.utx u = M1.mkB (M1.txt u)) := (by unfold M1.utx; rw [hoku]; rfl : _ = _)
          obtain ⟨c0, c1, c2, c3, c4, c5, c6, c7, c8, c9, c10, c11, c12⟩ := hcc
          clear hc
          have hA : Below wr.heap.size wr (wr.alloc (.cells #[.int .i64 u.dr, .int .i64 u.dn, .int .i64 u.sw, .int .i64 u.sc, .int .i64 u.sr, .int .i64 u.k, .int .i64 u.tr, .int .i64 u.id, .int .i64 u.pa, .string u.s, .int .i64 u.st, .int .i64 u.en, .int .i64 u.lv] 47)) := (Below.refl _ _).alloc (Nat.le_refl _) _
          have row0 : RowAt (wr.alloc (.cells #[.int .i64 u.dr, .int .i64 u.dn, .int .i64 u.sw, .int .i64 u.sc, .int .i64 u.sr, .int .i64 u.k, .int .i64 u.tr, .int .i64 u.id, .int .i64 u.pa, .string u.s, .int .i64 u.st, .int .i64 u.en, .int .i64 u.lv] 47)) wr.heap.size 13 (fun o => (#[.int .i64 u.dr, .int .i64 u.dn, .int .i64 u.sw, .int .i64 u.sc, .int .i64 u.sr, .int .i64 u.k, .int .i64 u.tr, .int .i64 u.id, .int .i64 u.pa, .string u.s, .int .i64 u.st, .int .i64 u.en, .int .i64 u.lv] : Array Value).getD o undef) := RowAt.new wr _ _
          go_upto_region 7 with fail
          obtain ⟨W0, hW0⟩ : ∃ W, wr.alloc (.cells #[.int .i64 u.dr, .int .i64 u.dn, .int .i64 u.sw, .int .i64 u.sc, .int .i64 u.sr, .int .i64 u.k, .int .i64 u.tr, .int .i64 u.id, .int .i64 u.pa, .string u.s, .int .i64 u.st, .int .i64 u.en, .int .i64 u.lv] 47) = W := ⟨_, rfl⟩
          rw [hW0] at hA row0 ⊢
          clear hW0 c0 c1 c2 c3 c4 c5 c6 c7 c8 c9 c10 c11 c12
          have c0 := row0.cell (o := 0) (by omega)
          have c1 := row0.cell (o := 1) (by omega)
          have c2 := row0.cell (o := 2) (by omega)
          have c3 := row0.cell (o := 3) (by omega)
          have c4 := row0.cell (o := 4) (by omega)
          have c5 := row0.cell (o := 5) (by omega)
          have c6 := row0.cell (o := 6) (by omega)
          have c7 := row0.cell (o := 7) (by omega)
          have c8 := row0.cell (o := 8) (by omega)
          have c9 := row0.cell (o := 9) (by omega)
          have c10 := row0.cell (o := 10) (by omega)
          have c11 := row0.cell (o := 11) (by omega)
          have c12 := row0.cell (o := 12) (by omega)
          simp at c0 c1 c2 c3 c4 c5 c6 c7 c8 c9 c10 c11 c12
          have cl := row0.lt
          have hB0 := hB.trans (hA.mono hsB)
          go_wp2_with fail
          refine (updateText_impl u _ hs (tab_more (tab.on hB0) hB0.size)).mono ?_
          rw [HUT.out]
          rintro e w2 ⟨rfl, hb2⟩
          have hB2 := hB0.trans (hb2.mono hB0.size)
          have htl : (M1.mkB (M1.txt u)).size ≤ maxLen := by rw [M1.mkB_size]; have := M1.txt_len hoku; unfold maxLen; omega
          clear c0 c1 c2 c3 c4 c5 c6 c7 c8 c9 c10 c11 c12 cl
          go_wp2_with fail
          refine (frameOf_impl _ _ htl).mono ?_
          rintro e w3 ⟨rfl, hb3⟩
          have hB3 := hB2.trans (hb3.mono hB2.size)
          have hfs := M1.frame_size (M1.mkB (M1.txt u))
          obtain ⟨f, hf⟩ : ∃ f, Hid (M1.frame (M1.mkB (M1.txt u)) = f) := ⟨_, rfl⟩
          rw [hf.out] at hfs HST ⊢
          have hsz : (x ++ f).size ≤ 205 * (k + 1) := by rw [ByteArray.size_append]; omega
          go_wp2_with fail
          exact ⟨⟨k + 1, x ++ f, by omega, by go_num, rfl, hsz, HST, hB3⟩, by simp [intOf]; omega⟩
        · have hkn : k = n := by omega
          have HS : Hid (M1.seg us = x) := (by unfold M1.seg; rw [HA.out, hl1.out, ← hkn, hsx.out]; rfl : _ = _)
          go_wp2_with fail
          refine bodyPost_ret (v := .tuple #[.string x, .bool true]) (by simp [results, Tryz.results8, go_sem]) rfl ?_
          exact ⟨by rw [HS.out, HA.out], hB⟩
  · have HN : Hid (M1.segOk us = false) := (by unfold M1.segOk; rw [hl1.out]; simp [hn] : _ = _)
    have HS : Hid (M1.seg us = ByteArray.empty) := (by unfold M1.seg; rw [HN.out]; rfl : _ = _)
    go_enter Tryz.func8, Tryz.ntmps8
    go_wp2_with fail
    refine bodyPost_ret (v := .tuple #[.string ByteArray.empty, .bool false]) (by simp [results, Tryz.results8, go_sem]; rfl) rfl ?_
    exact ⟨by rw [HS.out, HN.out], Below.refl _ _⟩
end Go.Proofs.YtbhidjagmonnaaaGreatDoor

namespace Go.Proofs.YtbhidjagmonnaaaGreatDoor
open Go.ChangeShapes Go.WideShapes Go.ChangeAt Go.RowKit
set_option linter.unusedSimpArgs false
set_option linter.unusedVariables false

theorem wpList_appU {w : World} {ops : Array Oper} {rest : List Oper} {o : Oper} {a : Act} {Q : Exit → Act → World → Prop} (hw : Region.wanted o (yielded ops a.tmps) = true) (s x : Operand)
    (ho : o.op = .call { callee := .builtin .append, args := #[s, x], argTypes := #[24, 24] })
    (base : Nat) (xv : Option Addr) (xc n : Nat) (ns : List M1.Upd) (hn : ns.length = n) (hs : a.eval s = .slice xv n xc) (hown : w.ownsRow base 47 13 (.slice xv n xc) n (ucL ns))
    (yv : Option Addr) (m yc : Nat) (ys : List M1.Upd) (hx : a.eval x = .slice yv m yc) (hy : IsUpds w yv m yc ys) (hlen : n + m ≤ 1000000) (hbase : base ≤ w.heap.size)
    (h : ∀ av cap w', w'.ownsRow base 47 13 (.slice av (n + m) cap) (n + m) (ucL (ns ++ ys)) → Below base w w' → wpList Tryz.prog ops Q rest (a.put o.dst (.slice av (n + m) cap)) w') : wpList Tryz.prog ops Q (o :: rest) a w := by
  obtain ⟨ti, hi1, hi2, hi3, hi4⟩ := infoUpd
  refine wpList_step fun K hK => ?_
  rw [if_pos hw]
  by_cases hm0 : m = 0
  · subst hm0
    have hys : ys = [] := List.eq_nil_of_length_eq_zero hy.hlen
    subst hys
    have hrun := run_append_zero (P := Tryz.prog) (w := w) base 24 o.type 47 ti 13 Tryz.underlying24 hi1 (.slice xv n xc) n (ucL ns) hown yv yc
    unfold Oper.wp
    simp [execOp, ho, resolve, invoke, builtin, hs, hx, hrun, Result.andThen]
    refine hK _ _ (h xv xc w ?_ (Below.refl _ _))
    simpa using hown
  · rcases hy.hlies with h0 | ⟨b, off, rfl, hb, hc⟩
    · exact absurd h0 hm0
    have hnews : ∀ j u, (ucL ys)[j]? = some u → w.cell? ((⟨b, off, none⟩ : Addr).add j) = some u := by
      have := ucL_take_cells (w := w) (b := b) (off := off) (n := m) (us := ys) hc hy.hlen 0 m (by omega)
      have e : (ys.drop 0).take m = ys := by rw [List.drop_zero, ← hy.hlen, List.take_length]
      rw [e] at this
      simpa using this
    refine wp_append_lies w s x 24 ho base 47 ti _ 13 112 Tryz.underlying24 hi1 hi2 hi3 hi4 rfl (by omega) (.slice xv n xc) n (ucL ns) hs hown ⟨b, off, none⟩ m yc (ucL ys) hx (by rw [ucL_len, hy.hlen]) hnews (ucL_one ys) (by omega) (by unfold maxLen; omega) (by omega) hbase _ rfl ?_
    intro g cap w' hown' hgrow hat hlt
    refine hK _ _ (h _ _ _ ?_ ?_)
    · rw [ucL_app]; exact hown'
    · exact (Below.refl base w).grown hgrow hbase (owns_base hown)
end Go.Proofs.YtbhidjagmonnaaaGreatDoor

namespace Go.Proofs.YtbhidjagmonnaaaGreatDoor
open Go.ChangeShapes Go.WideShapes Go.ChangeAt Go.RowKit
set_option linter.unusedSimpArgs false
set_option linter.unusedVariables false

theorem isUpds_one {w : World} {g : Nat} {u : M1.Upd} (h : RowAt w g 13 (uq u)) (hs : u.s.size ≤ maxLen) : IsUpds w (some ⟨g, 0, none⟩) 1 1 [u] := by
  refine isUpds_of_row rfl (Nat.le_refl _) (by unfold maxLen; omega) (fun i hi => ?_) (h.same fun o ho => ?_)
  · have : i = 0 := by omega
    subst this; exact hs
  · unfold ucell
    have e1 : o / 13 = 0 := by omega
    have e2 : o % 13 = o := by omega
    rw [e1, e2]
    rfl
theorem short_snoc {us : List M1.Upd} (h : Short us) {u : M1.Upd} (hu : u.s.size ≤ 1000) : Short (us ++ [u]) := fun x hx => by
  rcases List.mem_append.1 hx with h1 | h1
  · exact h x h1
  · have : x = u := by simpa using h1
    rw [this]; exact hu

set_option maxHeartbeats 4000000 in
set_option maxRecDepth 100000 in
theorem drawSegmentOf_any (av : Option Addr) (len cap : Nat) (w : World) (h : IsBytes w av len cap) :
    Calls Tryz.prog 7 #[.slice av len cap] w fun e w' => ∃ (bv : Option Addr) (c : Nat) (us : List M1.Upd), e = .returned (.slice bv us.length c) ∧ us.length ≤ 11 ∧ Short us ∧ IsUpds w' bv us.length c us ∧ Below w.heap.size w w' := by
  go_enter Tryz.func7, Tryz.ntmps7
  go_wp2_with fail
  refine (l1Open_any _ _ _ _ h).mono ?_
  rintro e w1 ⟨rfl, R1, hb1⟩
  have hr1 := R1.lt
  go_wp2_with fail
  refine (all_own _ _ _ _ 10 _ R1 (by omega) (by omega)).mono ?_
  rintro e w2 ⟨bv, c, us, rfl, hl, hsh, _, mu2, own2, R2, G2⟩
  have hB2 := hb1.trans (gr_to G2 hb1.size (Nat.le_refl _))
  have hr2 := R2.lt
  have hl2 : us.length ≤ 10 := by omega
  clear hl
  go_wp2_with fail
  refine (once_any _ _ _ _ 8 _ R2 (by omega) (by omega)).mono ?_
  rintro e w3 ⟨x, rfl, R3, G3⟩
  have hB3 := hB2.trans (gr_to G3 hB2.size (Nat.le_refl _))
  have own3 := owns_grA own2 G3 hr1
  have mu3 := mu2.gr G3 hr1
  clear own2 mu2 R2
  cases x with
  | false =>
    go_wp2_with fail
    go_ret
    exact ⟨bv, c, us, rfl, by omega, hsh, mu3.upds rfl hsh.max, hB3⟩
  | true =>
    go_wp2_with fail
    refine (update_any _ _ _ _ _ R3).mono ?_
    rintro e w4 ⟨u, rfl, hus, _, _, R4, G4⟩
    have hB4 := hB3.trans (gr_to G4 hB3.size (Nat.le_refl _))
    have own4 := owns_grA own3 G4 hr1
    clear own3 mu3 R3
    have hA : Below w4.heap.size w4 (w4.alloc (.cells #[.int .i64 u.dr, .int .i64 u.dn, .int .i64 u.sw, .int .i64 u.sc, .int .i64 u.sr, .int .i64 u.k, .int .i64 u.tr, .int .i64 u.id, .int .i64 u.pa, .string u.s, .int .i64 u.st, .int .i64 u.en, .int .i64 u.lv] 47)) := (Below.refl _ _).alloc (Nat.le_refl _) _
    have ru := isUpds_one (uq_new w4 u 47) (by unfold maxLen; omega)
    have hs1 := hb1.size
    have hs4 := hB4.size
    have hw1 : w1.heap.size ≤ w4.heap.size := Nat.le_trans G2.size (Nat.le_trans G3.size G4.size)
    go_wp2_with (at_builtin; refine wpList_appU (by rfl) _ _ rfl w1.heap.size _ _ us.length us rfl rfl (owns_below own4 hA) _ _ _ [u] rfl ru (by omega) (by simp; omega) ?_; intro a5 c5 w5 own5 hb5)
    have hB5 : Below w.heap.size w w5 := (hB4.trans (hA.mono hB4.size)).trans (hb5.mono hs1)
    obtain ⟨a6, c6, he6, mu6⟩ := MU.of_owns (us := us ++ [u]) (by simpa using own5)
    have hsn := short_snoc hsh (u := u) (by omega)
    go_ret
    refine ⟨a5, c5, us ++ [u], by simp, by simp; omega, hsn, ?_, hB5⟩
    have e2 : (Value.slice a5 (us ++ [u]).length c5) = .slice a6 (us ++ [u]).length c6 := by rw [← he6]; simp
    injection e2 with e2 _ e3
    rw [e2, e3]
    exact mu6.upds rfl hsn.max

set_option maxHeartbeats 4000000 in
set_option maxRecDepth 100000 in
theorem drawRecoveredFrom_any (av : Option Addr) (len cap : Nat) (w : World) (h : IsBytes w av len cap) :
    Calls Tryz.prog 13 #[.slice av len cap] w fun e w' => ∃ t : ByteArray, e = .returned (.string t) ∧ t.size ≤ 20000 ∧ Below w.heap.size w w' := by
  go_enter Tryz.func13, Tryz.ntmps13
  go_wp2_with fail
  refine (l1Open_any _ _ _ _ h).mono ?_
  rintro e w1 ⟨rfl, R1, hb1⟩
  have hr1 := R1.lt
  go_wp2_with fail
  refine (all_any _ _ _ _ 8 _ R1 (by omega) (by omega)).mono ?_
  rintro e w2 ⟨bv, c, us, rfl, hl, hsh, _, mu2, R2, G2⟩
  have hB2 := hb1.trans (gr_to G2 hb1.size (Nat.le_refl _))
  have hr2 := R2.lt
  go_wp2_with fail
  refine (segmentOf_spec _ _ _ us _ (mu2.upds rfl hsh.max)).mono ?_
  have hsz : (M1.seg us).size ≤ 10000 := by
    unfold M1.seg
    split
    · have := M1.segTo_size us us.length
      omega
    · exact Nat.zero_le _
  obtain ⟨x, hx⟩ : ∃ x, Hid (M1.seg us = x) := ⟨_, rfl⟩
  rw [hx.out] at hsz ⊢
  rintro e w3 ⟨rfl, hb3⟩
  have hB3 := hB2.trans (hb3.mono hB2.size)
  have R3 := R2.below hb3
  go_wp2_with fail
  refine (hurt_any _ _ _ _ x _ R3 (by omega)).mono ?_
  rintro e w4 ⟨t, rfl, ht, R4, G4⟩
  have hB4 := hB3.trans (gr_to G4 hB3.size (Nat.le_refl _))
  go_wp2_with fail
  go_ret
  exact ⟨t, rfl, by omega, hB4⟩

theorem infoB8 : (Tryz.prog.info? 5).map (fun i => (i.zero, i.size, i.bytes)) = some (some (.int .u8 0), 1, 1) := by kernel_rfl
theorem infoB : ∃ i, Tryz.prog.info? 5 = some i ∧ i.zero = some (.int .u8 0) ∧ i.size = 1 ∧ i.bytes = 1 := by
  have h := infoB8
  cases e : Tryz.prog.info? 5 with
  | none => rw [e] at h; cases h
  | some i => rw [e] at h; simp at h; exact ⟨i, rfl, h.1, h.2.1, h.2.2⟩
theorem push_size (ns : List Int) : ∀ r : ByteArray, (ns.foldl (fun r n => r.push (UInt8.ofNat n.toNat)) r).size = r.size + ns.length := by
  induction ns with
  | nil => intro r; rfl
  | cons n t ih => intro r; rw [List.foldl_cons, ih, ByteArray.size_push, List.length_cons]; omega
/-- A row of n bytes 0 as a text. -/
theorem conv_row {W : World} {b n : Nat} (h : RowAt W b n (fun _ => .int .u8 0)) : ∃ t : ByteArray, t.size = n ∧ (convert 22 9 (.slice (some ⟨b, 0, none⟩) n n)).run Tryz.prog W = .ok (.string t) W := by
  refine ⟨(List.replicate n (0 : Int)).foldl (fun r n => r.push (UInt8.ofNat n.toNat)) ByteArray.empty, ?_, ?_⟩
  · rw [push_size]; simp
  · rw [run_convert_bytes_string W _ _ _ (some ⟨b, 0, none⟩) n n Tryz.underlying22 Tryz.underlying5 Tryz.underlying9]
    have hl := run_loadCells_list (P := Tryz.prog) W ⟨b, 0, none⟩ ((List.replicate n (0 : Int)).map (Value.int .u8)) (fun j v hj => by
      have hjn : j < n := by
        rcases Nat.lt_or_ge j n with q | q
        · exact q
        · rw [List.getElem?_eq_none (by simp; exact q)] at hj; cases hj
      have hv : v = .int .u8 0 := by
        simp [hjn] at hj; exact hj.symm
      rw [hv]
      have := h.cell hjn
      by_cases hj0 : j = 0
      · subst hj0; simpa [Addr.add] using this
      · simpa [Addr.add, hj0] using this)
    rw [run_bytesToString W ⟨b, 0, none⟩ n n (List.replicate n 0) (by simpa using hl)]

theorem made_row {w4 : World} {b n : Nat} (hown : w4.ownsRow b 5 1 (.slice (some ⟨b, 0, none⟩) n n) n (madeCells (Value.int IntKind.u8 0).cells (n * 1)).toList) : RowAt w4 b n (fun _ => .int .u8 0) := by
  have := RowAt.of_owns hown
  rw [Nat.mul_one] at this
  exact this.same fun o ho => by
    show ((madeCells (Value.int IntKind.u8 0).cells n).toList.getD o undef) = _
    simp [madeCells, Value.cells, List.getD, ho, Nat.mod_one]

set_option maxHeartbeats 4000000 in
set_option maxRecDepth 100000 in
theorem drawFrameOf_any (av : Option Addr) (len cap : Nat) (w : World) (h : IsBytes w av len cap) :
    Calls Tryz.prog 15 #[.slice av len cap] w fun e w' => ∃ t : ByteArray, e = .returned (.string t) ∧ t.size ≤ 1000 ∧ Below w.heap.size w w' := by
  obtain ⟨ti, hi1, hi2, hi3, hi4⟩ := infoB
  have hi4' : Hid (ti.bytes = 1) := hi4
  have hi2' : Hid (ti.zero = some (.int .u8 0)) := hi2
  have hi3' : Hid (ti.size = 1) := hi3
  have hi1' : Hid (Tryz.prog.info? 5 = some ti) := hi1
  clear hi1 hi2 hi3 hi4
  go_enter Tryz.func15, Tryz.ntmps15
  go_wp2_with fail
  refine (l1Open_any _ _ _ _ h).mono ?_
  rintro e w1 ⟨rfl, R1, hb1⟩
  have hr1 := R1.lt
  go_wp2_with fail
  refine (once_any _ _ _ _ 8 _ R1 (by omega) (by omega)).mono ?_
  rintro e w2 ⟨x, rfl, R2, G2⟩
  have hB2 := hb1.trans (gr_to G2 hb1.size (Nat.le_refl _))
  cases x with
  | true =>
    go_wp2_with fail
    refine (below_any _ _ _ _ 4 _ R2 (by omega) (by omega)).mono ?_
    rintro e w3 ⟨y, rfl, y0, y4, R3, G3⟩
    have hB3 := hB2.trans (gr_to G3 hB2.size (Nat.le_refl _))
    obtain ⟨n, hn⟩ : ∃ n : Nat, Hid (199 + y = (n : Int)) := ⟨(199 + y).toNat, (by omega : 199 + y = ((199 + y).toNat : Int))⟩
    have hn4 : n < 204 := by have := hn.out; omega
    have j1 : IntKind.i64.wrap (199 + y) = (n : Int) := by rw [IntWalk.i64_in _ (by omega)]; exact hn.out
    go_wp2_with (at_make; refine wpList_make_full _ rfl _ _ _ rfl w3.heap.size 5 ti _ 1 Tryz.underlying22 hi1'.out hi2'.out hi3'.out _ _ _ _ n rfl rfl rfl rfl (by rw [hi4'.out]; omega) (by unfold maxLen; omega) (Nat.le_refl _) ?_; intro w4 hown hgrow; obtain ⟨t, ht, hc⟩ := conv_row (made_row hown))
    have hB4 : Below w.heap.size w w4 := hB3.trans ((Below.refl _ _).grown hgrow hB3.size (fun k e => by cases e))
    go_ret
    exact ⟨t, rfl, by omega, hB4⟩
  | false =>
    go_wp2_with fail
    refine (update_any _ _ _ _ _ R2).mono ?_
    rintro e w3 ⟨u, rfl, hus, _, _, R3, G3⟩
    have hB3 := hB2.trans (gr_to G3 hB2.size (Nat.le_refl _))
    have hul := M1.utx_len u
    go_wp2_with fail
    refine (updateText_spec u _ (by unfold maxLen; omega)).mono ?_
    rintro e w4 ⟨rfl, hb4⟩
    have hB4 := hB3.trans (hb4.mono hB3.size)
    go_wp2_with fail
    go_ret
    exact ⟨_, rfl, by omega, hB4⟩
end Go.Proofs.YtbhidjagmonnaaaGreatDoor
