/-
  For every two slices of updates the law FnExactTaken answers true: Taken of the program answers as the model's does, writes into no argument, and its answer is memory of its own, behind another call too; the arguments read as they did. No condition.
-/
import Derived.Test.YtkdmkgpjcbignaaRows
import Derived.WalkKit
import Derived.ProofKit
import Derived.Deep.Strs
import Derived.Test.YtkdmkgpjcbignaaSet1
import Derived.Deep.Slices
import Derived.Test.YtkdmkgpjcbignaaUpd2
import Derived.Test.YtkdmkgpjcbignaaTakenB
import Derived.OpenShut
import Derived.ShutString
import Derived.ChangeOld
import Derived.Lib.SmallJoins
namespace Go.Proofs.Ytkdmkgpjcbignaa
open Go.ChangeShapes Go.WideShapes Go.ChangeAt Go.RowKit
set_option maxRecDepth 100000

theorem span_cells {H : Type} {enc : TypeId × Value → H} {W : World} {base fuel : Nat} {spare : Nat → Bool} {held : Bool} {cs : List Value} {x : DataW H × List MemPlace}
    (h : DataW.trod enc Try.prog W base spare held fuel 51 cs = some x) :
    ∃ (a b : Int) (s : ByteArray) (c d : Int), cs = [.int .i64 a, .int .i64 b, .string s, .int .i64 c, .int .i64 d] ∧ s.size ≤ maxLen := by
  obtain ⟨xs, n, _, _, hl, hlen, hf⟩ := DataW.trod_struct Try.underlying51 h
  have hl5 : cs.length = 5 := hl.trans (by kernel_rfl)
  have hi : Try.prog.cellsOf 2 = 1 := by kernel_rfl
  have hs : Try.prog.cellsOf 9 = 1 := by kernel_rfl
  match xs, hlen, cs, hl5 with
  | [y0, y1, y2, y3, y4], _, [c0, c1, c2, c3, c4], _ =>
    have f0 := hf 0 _ rfl
    have f1 := hf 1 _ rfl
    have f2 := hf 2 _ rfl
    have f3 := hf 3 _ rfl
    have f4 := hf 4 _ rfl
    simp [hi, hs] at f0 f1 f2 f3 f4
    obtain ⟨a, e0, _, _⟩ := DataW.trod_int Try.underlying2 f0
    obtain ⟨b, e1, _, _⟩ := DataW.trod_int Try.underlying2 f1
    obtain ⟨s, e2, _, hs⟩ := DataW.trod_string Try.underlying9 f2
    obtain ⟨c, e3, _, _⟩ := DataW.trod_int Try.underlying2 f3
    obtain ⟨d, e4, _, _⟩ := DataW.trod_int Try.underlying2 f4
    simp at e0 e1 e2 e3 e4
    exact ⟨a, b, s, c, d, by rw [e0, e1, e2, e3, e4], hs⟩

theorem open_span {H : Type} {enc : TypeId × Value → H} {W : World} {base b0 : Nat} {spare : Nat → Bool} {held : Bool} {r : Reach} {v : Value} {d : DataW H} {p : List MemPlace}
    (hv : Value.okWide Try.prog W r b0 51 v) (h : DataW.Trod enc Try.prog W base spare held 51 v d p) :
    ∃ (a b : Int) (s : ByteArray) (c e : Int), v = .agg #[.int .i64 a, .int .i64 b, .string s, .int .i64 c, .int .i64 e] ∧ s.size ≤ maxLen := by
  obtain ⟨cs, rfl, _⟩ := okWide_struct Try.underlying51 hv
  obtain ⟨fuel, hf⟩ := h
  obtain ⟨a, b, s, c, e, hc, hs⟩ := span_cells hf
  refine ⟨a, b, s, c, e, ?_, hs⟩
  have : cs.toList = [.int .i64 a, .int .i64 b, .string s, .int .i64 c, .int .i64 e] := by simpa [Value.cells] using hc
  rw [← this]
end Go.Proofs.Ytkdmkgpjcbignaa

namespace Go.Proofs.Ytkdmkgpjcbignaa
open Go.ChangeShapes Go.WideShapes Go.ChangeAt Go.RowKit
set_option maxRecDepth 100000

theorem update_cells {H : Type} {enc : TypeId × Value → H} {W : World} {base fuel : Nat} {spare : Nat → Bool} {held : Bool} {cs : List Value} {x : DataW H × List MemPlace}
    (h : DataW.trod enc Try.prog W base spare held fuel 53 cs = some x) :
    ∃ (dr dn sw sc sr k tr id pa : Int) (s : ByteArray) (st en lv : Int), cs = [.int .i64 dr, .int .i64 dn, .int .i64 sw, .int .i64 sc, .int .i64 sr, .int .i64 k, .int .i64 tr, .int .i64 id, .int .i64 pa, .string s, .int .i64 st, .int .i64 en, .int .i64 lv] ∧ s.size ≤ maxLen := by
  obtain ⟨xs, n, _, _, hl, hlen, hf⟩ := DataW.trod_struct Try.underlying53 h
  have hl13 : cs.length = 13 := hl.trans (by kernel_rfl)
  have hi : Try.prog.cellsOf 2 = 1 := by kernel_rfl
  have hd : Try.prog.cellsOf 47 = 2 := by kernel_rfl
  have ht : Try.prog.cellsOf 49 = 3 := by kernel_rfl
  have hp : Try.prog.cellsOf 51 = 5 := by kernel_rfl
  match xs, hlen, cs, hl13 with
  | [y0, y1, y2, y3, y4, y5], _, [c0, c1, c2, c3, c4, c5, c6, c7, c8, c9, ca, cb, cc], _ =>
    have f0 := hf 0 _ rfl
    have f1 := hf 1 _ rfl
    have f2 := hf 2 _ rfl
    have f3 := hf 3 _ rfl
    have f4 := hf 4 _ rfl
    have f5 := hf 5 _ rfl
    simp [hi, hd, ht, hp] at f0 f1 f2 f3 f4 f5
    obtain ⟨z0, z1, n0, _, _, g0, g1⟩ := trod_struct2 Try.underlying47 f0
    obtain ⟨z2, z3, z4, n1, _, _, g2, g3, g4⟩ := Deep.trod_struct3 Try.underlying49 f1
    simp [hi] at g0 g1 g2 g3 g4
    obtain ⟨dr, e0, _, _⟩ := DataW.trod_int Try.underlying2 g0
    obtain ⟨dn, e1, _, _⟩ := DataW.trod_int Try.underlying2 g1
    obtain ⟨sw, e2, _, _⟩ := DataW.trod_int Try.underlying2 g2
    obtain ⟨sc, e3, _, _⟩ := DataW.trod_int Try.underlying2 g3
    obtain ⟨sr, e4, _, _⟩ := DataW.trod_int Try.underlying2 g4
    obtain ⟨k, e5, _, _⟩ := DataW.trod_int Try.underlying2 f2
    obtain ⟨tr, e6, _, _⟩ := DataW.trod_int Try.underlying2 f3
    obtain ⟨id, pa, s, st, en, e7, hs⟩ := span_cells f4
    obtain ⟨lv, e8, _, _⟩ := DataW.trod_int Try.underlying2 f5
    simp at e0 e1 e2 e3 e4 e5 e6 e7 e8
    obtain ⟨q0, q1, q2, q3, q4⟩ := e7
    exact ⟨dr, dn, sw, sc, sr, k, tr, id, pa, s, st, en, lv, by rw [e0, e1, e2, e3, e4, e5, e6, q0, q1, q2, q3, q4, e8], hs⟩

theorem open_update {H : Type} {enc : TypeId × Value → H} {W : World} {base b0 : Nat} {spare : Nat → Bool} {held : Bool} {r : Reach} {v : Value} {d : DataW H} {p : List MemPlace}
    (hv : Value.okWide Try.prog W r b0 53 v) (h : DataW.Trod enc Try.prog W base spare held 53 v d p) :
    ∃ (dr dn sw sc sr k tr id pa st en lv : Int) (s : ByteArray), v = .agg #[.int .i64 dr, .int .i64 dn, .int .i64 sw, .int .i64 sc, .int .i64 sr, .int .i64 k, .int .i64 tr, .int .i64 id, .int .i64 pa, .string s, .int .i64 st, .int .i64 en, .int .i64 lv] ∧ s.size ≤ maxLen := by
  obtain ⟨cs, rfl, _⟩ := okWide_struct Try.underlying53 hv
  obtain ⟨fuel, hf⟩ := h
  obtain ⟨dr, dn, sw, sc, sr, k, tr, id, pa, s, st, en, lv, hc, hs⟩ := update_cells hf
  refine ⟨dr, dn, sw, sc, sr, k, tr, id, pa, st, en, lv, s, ?_, hs⟩
  have : cs.toList = [.int .i64 dr, .int .i64 dn, .int .i64 sw, .int .i64 sc, .int .i64 sr, .int .i64 k, .int .i64 tr, .int .i64 id, .int .i64 pa, .string s, .int .i64 st, .int .i64 en, .int .i64 lv] := by simpa [Value.cells] using hc
  rw [← this]
end Go.Proofs.Ytkdmkgpjcbignaa

namespace Go.Proofs.Ytkdmkgpjcbignaa
open Go.ChangeShapes Go.WideShapes Go.ChangeAt Go.RowKit
set_option maxRecDepth 100000

theorem open_updates {H : Type} {enc : TypeId × Value → H} {W : World} {fuel len cap : Nat} {a : Option Addr} {x : DataW H × List MemPlace}
    (hf : DataW.trod enc Try.prog W 0 (fun _ => true) true fuel 22 (Value.slice a len cap).cells.toList = some x) :
    ∃ us, IsUpds W a len cap us := by
  rcases Deep.open_slice Try.underlying22 hf with ⟨hcs, _⟩ | ⟨c, l, k, m, n, D, Pl, hcs, _, hl, hm, hmm, hx, hall⟩
  · simp [Value.cells] at hcs
    obtain ⟨rfl, rfl, rfl⟩ := hcs
    exact ⟨[], ⟨rfl, Nat.le_refl _, Nat.zero_le _, fun i hi => absurd hi (Nat.not_lt_zero _), Or.inl rfl⟩⟩
  · simp [Value.cells] at hcs
    obtain ⟨rfl, rfl, rfl⟩ := hcs
    have hmm' : m = cap := by simpa using hmm
    subst hmm'
    have hce : Try.prog.cellsOf 53 = 13 := by kernel_rfl
    have each : ∀ i, i < len → ∃ u : M1.Upd, u.s.size ≤ maxLen ∧ ∀ j v, (ucs u)[j]? = some v → W.cell? (c.add (i * 13 + j)) = some v := fun i hi => by
      obtain ⟨cs', h1, h2⟩ := hall i (by omega)
      rw [hce] at h1
      obtain ⟨_, hlen, hcell⟩ := World.cells?_some h1
      obtain ⟨dr, dn, sw, sc, sr, k, tr, id, pa, s, st, en, lv, e, hs⟩ := update_cells h2
      subst e
      refine ⟨⟨dr, dn, sw, sc, sr, k, tr, id, pa, s, st, en, lv⟩, hs, fun j v hv => ?_⟩
      have hj : j < 13 := by
        have := (List.getElem?_eq_some_iff.1 hv).1
        simpa [ucs] using this
      have := hcell j (by simpa using hj)
      rw [Deep.add_add] at this
      rw [this]
      exact hv
    obtain ⟨f, hf⟩ : ∃ f : Nat → M1.Upd, ∀ i, i < len → (f i).s.size ≤ maxLen ∧ ∀ j v, (ucs (f i))[j]? = some v → W.cell? (c.add (i * 13 + j)) = some v := by
      refine ⟨fun i => if h : i < len then Classical.choose (each i h) else M1.zeroU, fun i hi => ?_⟩
      simp only [dif_pos hi]
      exact Classical.choose_spec (each i hi)
    have hup : ∀ i, i < len → M1.up ((List.range len).map f) i = f i := fun i hi => by simp [M1.up, List.getD, hi]
    refine ⟨(List.range len).map f, ⟨by simp, hl, hm, fun i hi => by rw [hup i hi]; exact (hf i hi).1, ?_⟩⟩
    rcases Nat.eq_zero_or_pos len with h0 | h0
    · exact Or.inl h0
    · right
      obtain ⟨b, off, spot⟩ := c
      have h00 := (hf 0 h0).2 0 _ rfl
      have hspot : spot = none := by simpa [Addr.add] using World.cell?_spot h00
      subst hspot
      refine ⟨b, off, rfl, ?_, fun i hi => ?_⟩
      · exact World.block_lt_of_cell? W _ (by simpa [Addr.add] using h00)
      · rw [hup i hi]
        have key : ∀ j v, (ucs (f i))[j]? = some v → W.cell? ⟨b, off + i * 13 + j, none⟩ = some v := fun j v hv => by
          rw [Nat.add_assoc, ← Go.WideShapes.add_plain]
          exact (hf i hi).2 j v hv
        exact ⟨key 0 _ rfl, key 1 _ rfl, key 2 _ rfl, key 3 _ rfl, key 4 _ rfl, key 5 _ rfl, key 6 _ rfl, key 7 _ rfl, key 8 _ rfl, key 9 _ rfl, key 10 _ rfl, key 11 _ rfl, key 12 _ rfl⟩
end Go.Proofs.Ytkdmkgpjcbignaa

namespace Go.Proofs.Ytkdmkgpjcbignaa
open Go.ChangeShapes Go.WideShapes Go.ChangeAt Go.RowKit
set_option linter.unusedSimpArgs false

theorem eqDot_self (a b : Int) (w : World) :
    Calls Try.prog 39 #[.agg #[.int .i64 a, .int .i64 b], .agg #[.int .i64 a, .int .i64 b]] w fun e w' => e = .returned (.bool true) ∧ Below w.heap.size w w' :=
  (eqDot_any a b a b w).mono fun e w' ⟨he, hb⟩ => ⟨by rw [he]; simp [M1.eqd], hb⟩

theorem eqSpan_self (a b c d : Int) (s : ByteArray) (w : World) :
    Calls Try.prog 57 #[.agg #[.int .i64 a, .int .i64 b, .string s, .int .i64 c, .int .i64 d], .agg #[.int .i64 a, .int .i64 b, .string s, .int .i64 c, .int .i64 d]] w fun e w' => e = .returned (.bool true) ∧ Below w.heap.size w w' := by
  go_enter Try.func57, Try.ntmps57
  go_wp2
  go_ret
  refine ⟨rfl, ?_⟩
  repeat (first | (with_reducible exact Below.refl _ _) | ((with_reducible refine Below.setCell ?_ ?_ _); rotate_left; (focus (first | omega | (simp; done) | (simp; omega)))) | ((with_reducible refine Below.alloc ?_ ?_ _); rotate_left; (focus (first | omega | (simp; done) | (simp; omega)))) | (with_reducible refine Below.drew ?_))

set_option maxHeartbeats 4000000 in
theorem eqUpdate_self (dr dn sw sc sr k tr id pa st en lv : Int) (s : ByteArray) (w : World) :
    Calls Try.prog 40 #[.agg #[.int .i64 dr, .int .i64 dn, .int .i64 sw, .int .i64 sc, .int .i64 sr, .int .i64 k, .int .i64 tr, .int .i64 id, .int .i64 pa, .string s, .int .i64 st, .int .i64 en, .int .i64 lv], .agg #[.int .i64 dr, .int .i64 dn, .int .i64 sw, .int .i64 sc, .int .i64 sr, .int .i64 k, .int .i64 tr, .int .i64 id, .int .i64 pa, .string s, .int .i64 st, .int .i64 en, .int .i64 lv]] w fun e w' => e = .returned (.bool true) ∧ Below w.heap.size w w' := by
  go_enter Try.func40, Try.ntmps40
  go_wp2_with fail
  refine (eqDot_self _ _ _).mono ?_
  rintro e w1 ⟨rfl, hb1⟩
  have hB1 := hb1
  clear hb1
  obtain ⟨hc1, hf1⟩ := bcell hB1
  have hz1 := hB1.size
  (try simp [Nat.succ_le_iff] at hz1)
  have hz1_0 : w.heap.size < w1.heap.size := by omega
  have hz1_1 : w.heap.size + 1 < w1.heap.size := by omega
  go_wp2_with fail
  refine (eqStamp_same _ _ _ _).mono ?_
  rintro e w2 ⟨rfl, hb2⟩
  have hB2 := hB1.trans (hb2.mono hB1.size)
  obtain ⟨hc2, hf2⟩ := bcell hB2
  have hz2 := hB2.size
  (try simp [Nat.succ_le_iff] at hz2)
  have hz2_0 : w.heap.size < w2.heap.size := by omega
  have hz2_1 : w.heap.size + 1 < w2.heap.size := by omega
  clear hb2 hB1 hc1 hf1 hz1 hz1_0 hz1_1
  go_wp2_with fail
  refine (eqSpan_self _ _ _ _ _ _).mono ?_
  rintro e w3 ⟨rfl, hb3⟩
  have hB3 := hB2.trans (hb3.mono hB2.size)
  obtain ⟨hc3, hf3⟩ := bcell hB3
  have hz3 := hB3.size
  (try simp [Nat.succ_le_iff] at hz3)
  have hz3_0 : w.heap.size < w3.heap.size := by omega
  have hz3_1 : w.heap.size + 1 < w3.heap.size := by omega
  clear hb3 hB2 hc2 hf2 hz2 hz2_0 hz2_1
  go_wp2_with fail
  go_ret
  refine ⟨rfl, ?_⟩
  repeat (first | (with_reducible exact Below.refl _ _) | ((with_reducible refine Below.setCell ?_ ?_ _); rotate_left; (focus (first | omega | (simp; done) | (simp; omega)))) | ((with_reducible refine Below.alloc ?_ ?_ _); rotate_left; (focus (first | omega | (simp; done) | (simp; omega)))) | (with_reducible refine Below.drew ?_) | ((with_reducible refine Below.trans ?_ (Below.mono hB3 ?_)); rotate_left; (focus (first | omega | (simp; done) | (simp; omega)))))

set_option maxHeartbeats 4000000 in
theorem eqUpdateS_self (av bv : Option Addr) (n cn cm : Nat) (us : List M1.Upd) (w : World) (h1 : IsUpds w av n cn us) (h2 : IsUpds w bv n cm us) :
    Calls Try.prog 13 #[.slice av n cn, .slice bv n cm] w fun e w' => e = .returned (.bool true) ∧ Below w.heap.size w w' := by
  have hm1 := h1.hcap
  have hm2 := h1.hmost
  have hm3 := h2.hcap
  have hm4 := h2.hmost
  unfold maxLen at hm2 hm4
  have hnb : ((n : Int) != (n : Int)) = false := by simp
  go_enter Try.func13, Try.ntmps13
  go_wp2
  go_loopw [5] (fun i wr => ∃ k : Nat, k ≤ n ∧ i = .int .i64 k ∧ Below w.heap.size w wr) (fun i _ => n - (intOf i).toNat)
  case atStart => exact ⟨0, Nat.zero_le _, rfl, Below.refl _ _⟩
  case round =>
    obtain ⟨k, hk, rfl, hB⟩ := hrel
    by_cases hlt : k < n
    · have g1 := h1.below hB
      have g2 := h2.below hB
      rcases g1.hlies with h0 | ⟨b, off, rfl, hb, hc⟩
      · omega
      rcases g2.hlies with h0 | ⟨b2, off2, rfl, hb2, hc2⟩
      · omega
      obtain ⟨c0, c1, c2, c3, c4, c5, c6, c7, c8, c9, c10, c11, c12⟩ := hc k hlt
      obtain ⟨d0, d1, d2, d3, d4, d5, d6, d7, d8, d9, d10, d11, d12⟩ := hc2 k hlt
      clear hc hc2 g1 g2
      have i0 : (0 : Int) ≤ (k : Int) := by omega
      have i1 : (k : Int) < (n : Int) := by omega
      go_wp2_with fail
      go_region_held3 (fun w' => Kp wr w')
        (first | exact kp_zero _ | exact kp_drew (by assumption) | exact kp_step (by assumption) (by assumption))
        (first
          | (go_at_call 40; refine (eqUpdate_self _ _ _ _ _ _ _ _ _ _ _ _ _ _).mono ?_; rintro e w' ⟨rfl, hb⟩))
      rename_i hK
      obtain ⟨hK1, hK2⟩ := hK
      have hB' := hB.trans (hK1.mono hB.size)
      go_wp2_with fail
      exact ⟨⟨k + 1, by omega, by go_num, hB'⟩, by simp [intOf]; omega⟩
    · go_wp2_with fail
      go_ret
      exact ⟨rfl, hB⟩

set_option maxHeartbeats 4000000 in
theorem szUpdateS_any (av : Option Addr) (n cn : Nat) (us : List M1.Upd) (left : Int) (w : World) (h1 : IsUpds w av n cn us) (h0 : 0 ≤ left) (hl : left ≤ 1048576) :
    Calls Try.prog 8 #[.slice av n cn, .int .i64 left] w fun e w' => ((∃ r, (n : Int) ≤ left ∧ 0 ≤ r ∧ r ≤ left ∧ e = .returned (.int .i64 r)) ∨ e = .returned (.int .i64 (-1))) ∧ Below w.heap.size w w' := by
  have hm1 := h1.hcap
  have hm2 := h1.hmost
  unfold maxLen at hm2
  by_cases hn : (n : Int) ≤ left
  · go_enter Try.func8, Try.ntmps8
    go_wp2_with fail
    go_loopw [1, 5] (fun r i wr => ∃ k : Nat, k ≤ n ∧ i = .int .i64 k ∧ Below w.heap.size w wr ∧ ∃ q : Int, 0 ≤ q ∧ q ≤ left ∧ r = .int .i64 q) (fun _ i _ => n - (intOf i).toNat)
    case atStart => exact ⟨0, Nat.zero_le _, rfl, Below.refl _ _, left - n, by omega, by omega, rfl⟩
    case round =>
      obtain ⟨k, hk, rfl, hB, q, hq0, hq1, rfl⟩ := hrel
      by_cases hlt : k < n
      · have g1 := h1.below hB
        rcases g1.hlies with h0 | ⟨b, off, rfl, hb, hc⟩
        · omega
        obtain ⟨c0, c1, c2, c3, c4, c5, c6, c7, c8, c9, c10, c11, c12⟩ := hc k hlt
        have hs := h1.htxt k hlt
        clear hc g1
        have i0 : (0 : Int) ≤ (k : Int) := by omega
        have i1 : (k : Int) < (n : Int) := by omega
        by_cases hf : ((M1.up us k).s.size : Int) ≤ q
        · go_wp2_with fail
          refine (szUpdate_yes _ _ _ _ _ _ _ _ _ _ _ _ _ _ _ hq0 (by omega) hs hf).mono ?_
          rintro e w2 ⟨rfl, hb2⟩
          have hB2 := hB.trans (hb2.mono hB.size)
          go_wp2_with fail
          exact ⟨⟨k + 1, by omega, by go_num, hB2, q - (M1.up us k).s.size, by omega, by omega, rfl⟩, by simp [intOf]; omega⟩
        · go_wp2_with fail
          refine (szUpdate_no _ _ _ _ _ _ _ _ _ _ _ _ _ _ _ hq0 (by omega) hs (by omega)).mono ?_
          rintro e w2 ⟨rfl, hb2⟩
          have hB2 := hB.trans (hb2.mono hB.size)
          go_wp2_with fail
          go_ret
          exact ⟨Or.inr rfl, hB2⟩
      · go_wp2_with fail
        go_ret
        exact ⟨Or.inl ⟨q, hn, hq0, hq1, rfl⟩, hB⟩
  · go_enter Try.func8, Try.ntmps8
    go_wp2_with fail
    go_ret
    exact ⟨Or.inr rfl, Below.refl _ _⟩
end Go.Proofs.Ytkdmkgpjcbignaa

namespace Go.Proofs.Ytkdmkgpjcbignaa.exTaken
open Go.ChangeShapes Go.WideShapes Go.ChangeAt Go.RowKit
set_option linter.unusedVariables false
set_option linter.unusedSimpArgs false

theorem tL_txt (xs ys : List M1.Upd) : ∀ i, i < (M1.tL xs ys).length → (M1.up (M1.tL xs ys) i).s.size ≤ maxLen := fun i hi => by
  by_cases h : M1.tOk xs ys = true
  · have e : M1.tL xs ys = M1.tO xs ys := by unfold M1.tL; rw [if_pos h]
    rw [e] at hi ⊢
    have hag : M1.tpre xs ys = true := by
      unfold M1.tOk at h
      simp at h; exact h.1
    exact tk_txts hag (Nat.le_refl _) i hi
  · have e : M1.tL xs ys = [] := by unfold M1.tL; rw [if_neg h]
    rw [e] at hi; cases hi
theorem tL_len (xs ys : List M1.Upd) : (M1.tL xs ys).length ≤ 60 := by
  by_cases h : M1.tOk xs ys = true
  · have e : M1.tL xs ys = M1.tO xs ys := by unfold M1.tL; rw [if_pos h]
    rw [e]
    unfold M1.tOk at h
    simp at h; exact M1.setOk_len h.2
  · have e : M1.tL xs ys = [] := by unfold M1.tL; rw [if_neg h]
    rw [e]; simp

set_option maxHeartbeats 40000000 in
set_option maxRecDepth 100000 in
theorem walk (av : Option Addr) (n cn : Nat) (xs : List M1.Upd) (bv : Option Addr) (m cm : Nat) (ys : List M1.Upd) (w : World) (h1 : IsUpds w av n cn xs) (h2 : IsUpds w bv m cm ys) :
    Calls Try.prog 5 #[.slice av n cn, .slice bv m cm] w fun e w' => e = .returned (.bool true) ∧ Below w.heap.size w w' := by
  have hm1 := h1.hcap
  have hm2 := h1.hmost
  have hm3 := h2.hcap
  have hm4 := h2.hmost
  have HL1 : Hid (xs.length = n) := h1.hlen
  have HL2 : Hid (ys.length = m) := h2.hlen
  have HT1 : Hid (∀ i, i < n → (M1.up xs i).s.size ≤ maxLen) := h1.htxt
  have HT2 : Hid (∀ i, i < m → (M1.up ys i).s.size ≤ maxLen) := h2.htxt
  have hN0 := tL_len xs ys
  have hT0 := tL_txt xs ys
  obtain ⟨N, hNe⟩ : ∃ N, M1.tL xs ys = N := ⟨_, rfl⟩
  obtain ⟨K, hKe⟩ : ∃ K, M1.tOk xs ys = K := ⟨_, rfl⟩
  rw [hNe] at hN0 hT0
  have HN : Hid (M1.tL xs ys = N) := hNe
  have HK : Hid (M1.tOk xs ys = K) := hKe
  have HTN : Hid (∀ i, i < N.length → (M1.up N i).s.size ≤ maxLen) := hT0
  clear hNe hKe hT0
  go_enter Try.func5, Try.ntmps5
  go_wp2_with fail
  refine (szUpdateS_any _ _ _ _ _ _ h1 (by omega) (by omega)).mono ?_
  rintro e wa ⟨⟨r, hn, hr0, hr1, rfl⟩ | rfl, hba⟩
  · have hn' : n ≤ 1048576 := by omega
    have hr2 : ¬ r < 0 := by omega
    go_wp2_with fail
    refine (szUpdateS_any _ _ _ _ _ _ (h2.below hba) hr0 hr1).mono ?_
    rintro e w0 ⟨⟨r', hm, hr0', hr1', rfl⟩ | rfl, hb0⟩
    · have hm' : m ≤ 1048576 := by omega
      have hr2' : ¬ r' < 0 := by omega
      have B0 := hba.trans (hb0.mono hba.size)
      have hs0 := B0.size
      clear hba hb0
      go_wp2_with fail
      refine (toUpdateS_any _ _ _ _ _ (h1.below B0) hn').mono ?_
      rintro e w1 ⟨gP1, rfl, hgP1, P11, hb1⟩
      have hlP1 := P11.lt
      have B1 := B0.trans (hb1.mono B0.size)
      have hs1 := hb1.size
      go_wp2_with fail
      refine (toUpdateS_any _ _ _ _ _ (h2.below B1) hm').mono ?_
      rintro e w2 ⟨gQ1, rfl, hgQ1, Q12, hb2⟩
      have hlQ1 := Q12.lt
      have B2 := B1.trans (hb2.mono B1.size)
      have hs2 := hb2.size
      have P12 := P11.below hb2
      clear P11
      go_wp2_with fail
      have js := taken_spec _ _ _ _ _ _ _ _ _ (isUpds_of_row HL1.out (Nat.le_refl _) (by unfold maxLen; omega) HT1.out P12) (isUpds_of_row HL2.out (Nat.le_refl _) (by unfold maxLen; omega) HT2.out Q12)
      rw [HN.out, HK.out] at js
      refine js.mono ?_
      clear js
      rintro e w3 ⟨⟨aW, cW, rfl, W3⟩, hb3⟩
      have B3 := B2.trans (hb3.mono B2.size)
      have hs3 := hb3.size
      have P13 := P12.below hb3
      have Q13 := Q12.below hb3
      clear P12 Q12
      go_wp2_with fail
      refine (toUpdateS_any _ _ _ _ _ (h1.below B3) hn').mono ?_
      rintro e w4 ⟨gP, rfl, hgP, P4, hb4⟩
      have hlP := P4.lt
      have B4 := B3.trans (hb4.mono B3.size)
      have hs4 := hb4.size
      have W4 := W3.below hb4
      clear W3
      go_wp2_with fail
      refine (toUpdateS_any _ _ _ _ _ (h2.below B4) hm').mono ?_
      rintro e w5 ⟨gQ, rfl, hgQ, Q5, hb5⟩
      have hlQ := Q5.lt
      have B5 := B4.trans (hb5.mono B4.size)
      have hs5 := hb5.size
      have W5 := W4.below hb5
      have P5 := P4.below hb5
      clear W4 P4
      go_wp2_with fail
      have js := taken_impl _ _ _ _ _ _ _ _ _ (isUpds_of_row HL1.out (Nat.le_refl _) (by unfold maxLen; omega) HT1.out P5) (isUpds_of_row HL2.out (Nat.le_refl _) (by unfold maxLen; omega) HT2.out Q5)
      rw [HN.out, HK.out] at js
      refine js.mono ?_
      clear js
      rintro e w6 ⟨⟨aG, cG, rfl, G6⟩, hb6⟩
      have B6 := B5.trans (hb6.mono B5.size)
      have hs6 := hb6.size
      have W6 := W5.below hb6
      have P6 := P5.below hb6
      have Q6 := Q5.below hb6
      clear W5 P5 Q5
      have hKK : (K != K) = false := by simp
      go_wp2_with fail
      refine (eqUpdateS_self _ _ _ _ _ _ _ (G6.upds rfl HTN.out) (W6.upds rfl HTN.out)).mono ?_
      rintro e w7 ⟨rfl, hb7⟩
      have B7 := B6.trans (hb7.mono B6.size)
      have hs7 := hb7.size
      have W7 := W6.below hb7
      have P7 := P6.below hb7
      have Q7 := Q6.below hb7
      have G7 := G6.below hb7
      clear W6 P6 Q6 G6
      go_wp2_with fail
      refine (toUpdateS_any _ _ _ _ _ (h1.below B7) hn').mono ?_
      rintro e w8 ⟨gP2, rfl, hgP2, P28, hb8⟩
      have hlP2 := P28.lt
      have B8 := B7.trans (hb8.mono B7.size)
      have hs8 := hb8.size
      have W8 := W7.below hb8
      have P8 := P7.below hb8
      have Q8 := Q7.below hb8
      have G8 := G7.below hb8
      clear W7 P7 Q7 G7
      go_wp2_with fail
      refine (eqUpdateS_self _ _ _ _ _ _ _ (isUpds_of_row HL1.out (Nat.le_refl _) (by unfold maxLen; omega) HT1.out P8) (isUpds_of_row HL1.out (Nat.le_refl _) (by unfold maxLen; omega) HT1.out P28)).mono ?_
      rintro e w9 ⟨rfl, hb9⟩
      have B9 := B8.trans (hb9.mono B8.size)
      have hs9 := hb9.size
      have W9 := W8.below hb9
      have P9 := P8.below hb9
      have Q9 := Q8.below hb9
      have G9 := G8.below hb9
      have P29 := P28.below hb9
      clear W8 P8 Q8 G8 P28
      go_wp2_with fail
      refine (toUpdateS_any _ _ _ _ _ (h2.below B9) hm').mono ?_
      rintro e w10 ⟨gQ2, rfl, hgQ2, Q210, hb10⟩
      have hlQ2 := Q210.lt
      have B10 := B9.trans (hb10.mono B9.size)
      have hs10 := hb10.size
      have W10 := W9.below hb10
      have P10 := P9.below hb10
      have Q10 := Q9.below hb10
      have G10 := G9.below hb10
      clear W9 P9 Q9 G9
      go_wp2_with fail
      refine (eqUpdateS_self _ _ _ _ _ _ _ (isUpds_of_row HL2.out (Nat.le_refl _) (by unfold maxLen; omega) HT2.out Q10) (isUpds_of_row HL2.out (Nat.le_refl _) (by unfold maxLen; omega) HT2.out Q210)).mono ?_
      rintro e w11 ⟨rfl, hb11⟩
      have B11 := B10.trans (hb11.mono B10.size)
      have hs11 := hb11.size
      have W11 := W10.below hb11
      have P11 := P10.below hb11
      have Q11 := Q10.below hb11
      have G11 := G10.below hb11
      have Q211 := Q210.below hb11
      clear W10 P10 Q10 G10 Q210
      go_wp2_with fail
      refine (markU_some _ _ _ _ 1 _ P11 (Nat.le_refl _) (by unfold maxLen; omega) hn' (by omega) (by omega)).mono ?_
      rintro e w12 ⟨rfl, x12, hb12⟩
      clear x12
      have B12 := B11.trans (gr_to hb12 B11.size (by omega))
      have hs12 := hb12.size
      have W12 := W11.off hb12 (by omega)
      have Q12 := Q11.gr hb12 (by omega)
      have G12 := G11.off hb12 (by omega)
      clear W11 Q11 G11
      have e1 : (0 : Int) ≤ 1 + 13 * (n : Int) := by omega
      have e2 : 1 + 13 * (n : Int) ≤ 100000000 := by omega
      go_wp2_with fail
      refine (markU_some _ _ _ _ (1 + 13 * (n : Int)) _ Q12 (Nat.le_refl _) (by unfold maxLen; omega) hm' (by omega) (by omega)).mono ?_
      rintro e w13 ⟨rfl, x13, hb13⟩
      clear x13
      have B13 := B12.trans (gr_to hb13 B12.size (by omega))
      have hs13 := hb13.size
      have W13 := W12.off hb13 (by omega)
      have G13 := G12.off hb13 (by omega)
      clear W12 G12
      have e3 : ¬ (1 + 13 * (n : Int) + 13 * (m : Int)) < 0 := by omega
      go_wp2_with fail
      refine (eqUpdateS_self _ _ _ _ _ _ _ (G13.upds rfl HTN.out) (W13.upds rfl HTN.out)).mono ?_
      rintro e w14 ⟨rfl, hb14⟩
      have B14 := B13.trans (hb14.mono B13.size)
      have hs14 := hb14.size
      have W14 := W13.below hb14
      have G14 := G13.below hb14
      clear W13 G13
      go_wp2_with fail
      refine (markU_any _ _ _ _ _ _ 1 _ G14 (by omega) (by omega) (by omega)).mono ?_
      rintro e w15 ⟨rfl, G15, mk15⟩
      have W15 := W14.mk G14 mk15 (by omega)
      have B15 := B14.trans (MkU.below G14 mk15 B14.size (by omega))
      have hs15 := (MkU.below (B := w.heap.size) G14 mk15 B14.size (by omega)).size
      clear W14 G14 mk15
      have e4 : ¬ (1 + 13 * (N.length : Int)) < 0 := by omega
      go_wp2_with fail
      refine (heldU_any _ _ _ _ _ 1 _ G15 (by omega) (by omega) (by omega)).mono ?_
      rintro e w16 ⟨rfl, hb16⟩
      have B16 := B15.trans (hb16.mono B15.size)
      have hs16 := hb16.size
      have W16 := W15.below hb16
      have G16 := G15.below hb16
      clear W15 G15
      go_wp2_with fail
      refine (toUpdateS_any _ _ _ _ _ (h1.below B16) hn').mono ?_
      rintro e w17 ⟨gP3, rfl, hgP3, P317, hb17⟩
      have hlP3 := P317.lt
      have B17 := B16.trans (hb17.mono B16.size)
      have hs17 := hb17.size
      have W17 := W16.below hb17
      have G17 := G16.below hb17
      clear W16 G16
      go_wp2_with fail
      refine (toUpdateS_any _ _ _ _ _ (h2.below B17) hm').mono ?_
      rintro e w18 ⟨gQ3, rfl, hgQ3, Q318, hb18⟩
      have hlQ3 := Q318.lt
      have B18 := B17.trans (hb18.mono B17.size)
      have hs18 := hb18.size
      have W18 := W17.below hb18
      have G18 := G17.below hb18
      have P318 := P317.below hb18
      clear W17 G17 P317
      go_wp2_with fail
      have js := taken_impl _ _ _ _ _ _ _ _ _ (isUpds_of_row HL1.out (Nat.le_refl _) (by unfold maxLen; omega) HT1.out P318) (isUpds_of_row HL2.out (Nat.le_refl _) (by unfold maxLen; omega) HT2.out Q318)
      rw [HN.out, HK.out] at js
      refine js.mono ?_
      clear js
      rintro e w19 ⟨⟨aH, cH, rfl, H19⟩, hb19⟩
      have B19 := B18.trans (hb19.mono B18.size)
      have hs19 := hb19.size
      have W19 := W18.below hb19
      have G19 := G18.below hb19
      have P319 := P318.below hb19
      have Q319 := Q318.below hb19
      clear W18 G18 P318 Q318
      go_wp2_with fail
      refine (eqUpdateS_self _ _ _ _ _ _ _ (H19.upds rfl HTN.out) (W19.upds rfl HTN.out)).mono ?_
      rintro e w20 ⟨rfl, hb20⟩
      have B20 := B19.trans (hb20.mono B19.size)
      have hs20 := hb20.size
      have W20 := W19.below hb20
      have G20 := G19.below hb20
      have H20 := H19.below hb20
      clear W19 G19 H19
      go_wp2_with fail
      refine (heldU_any _ _ _ _ _ 1 _ G20 (by omega) (by omega) (by omega)).mono ?_
      rintro e w21 ⟨rfl, hb21⟩
      have B21 := B20.trans (hb21.mono B20.size)
      have hs21 := hb21.size
      have W21 := W20.below hb21
      have G21 := G20.below hb21
      have H21 := H20.below hb21
      clear W20 G20 H20
      go_wp2_with fail
      go_ret
      exact ⟨rfl, B21⟩
    · have B0 := hba.trans (hb0.mono hba.size)
      go_wp2_with fail
      go_ret
      exact ⟨rfl, B0⟩
  · go_wp2_with fail
    go_ret
    exact ⟨rfl, hba⟩

theorem own : ownKnob Try.prog.godebug = none := by kernel_rfl
theorem laidOut : laidOutB Try.prog = true := by kernel_rfl
set_option maxRecDepth 100000 in
theorem lifted (os : Os) (started : os.Started) (H : Type) (enc : TypeId × Value → H) :
    ReturnsInHanded {} Try.checked os 5 .any (Rows.fnExactTakenSpec.pre6 enc Try.prog Try.f5 Rows.fnExactTakenRow.domain false) (Rows.fnExactTakenSpec.post enc Try.prog Try.f5 false true false false) := by
  refine returnsInHanded_of_change (C := Try.checked) own started (by kernel_rfl) Try.func5
    (ChangeSpec.witness6 (enc := enc) (C := Try.checked) false ⟨#[], #[.slice none 0 0, .slice none 0 0], []⟩ 8 (by kernel_rfl) (by kernel_rfl) (by kernel_rfl) (by kernel_rfl)) ?_
  intro W base args ds gs before hval0 hW hcnd _
  have hval : ∀ (j : Nat) t v, Try.f5.params[j]? = some t → args[j]? = some v → Value.okWide Try.prog W .any base t v := hval0
  have hW' := hW
  obtain ⟨p, q, hA0, hV, rfl, hfz, hnd⟩ := hW
  have hA : DataW.TrodAll enc Try.prog W 0 (fun _ => true) true Try.f5.params.toList args.toList ds p := hA0
  rw [Try.params5] at hA hval
  obtain ⟨v0, vs0, d0, ds0, p0, q0, hargs, rfl, rfl, h0, r0⟩ := trodAll_cons hA
  obtain ⟨v1, vs1, d1, ds1, p1, q1, rfl, rfl, rfl, h1, r1⟩ := trodAll_cons r0
  obtain ⟨rfl, rfl, rfl⟩ := trodAll_nil r1
  obtain rfl : args = #[v0, v1] := by cases args; simp_all
  obtain ⟨rfl, rfl⟩ := trodVars_none hV
  have k0 := h0
  have lt0 : ∀ x ∈ p0, x.block < W.heap.size := by obtain ⟨m, hm⟩ := k0; exact DataW.trod_lt m _ _ _ hm
  have k1 := h1
  have lt1 : ∀ x ∈ p1, x.block < W.heap.size := by obtain ⟨m, hm⟩ := k1; exact DataW.trod_lt m _ _ _ hm
  obtain ⟨a0, l0, c0, rfl⟩ := okWide_slice Try.underlying22 (hval 0 22 v0 rfl rfl)
  obtain ⟨fu0, hf0⟩ := h0
  obtain ⟨us0, vec0⟩ := open_updates hf0
  obtain ⟨a1, l1, c1, rfl⟩ := okWide_slice Try.underlying22 (hval 1 22 v1 rfl rfl)
  obtain ⟨fu1, hf1⟩ := h1
  obtain ⟨us1, vec1⟩ := open_updates hf1
  clear hA0 hval0
  refine (walk a0 l0 c0 us0 a1 l1 c1 us1 W vec0 vec1).mono fun e W' ⟨he, bel⟩ => ?_
  subst he
  exact ⟨_, rfl, _, _, _, [], _, [], hW', trodAll_mk1 (shut_bool Try.underlying4 _), (trodAll_cons_mk (Below.trod laidOut (by kernel_rfl) (of_decide_eq_true (by kernel_rfl)) k0 bel lt0) (trodAll_cons_mk (Below.trod laidOut (by kernel_rfl) (of_decide_eq_true (by kernel_rfl)) k1 bel lt1) trodAll_mk0)), rfl, bel.frame _, fun h => by cases h⟩

theorem over : Rows.fnExactTakenRow.holds Try.pinned (OpenSpec.ofChange Rows.fnExactTakenSpec) :=
  OpenClaim.holds_of_wide 5 Try.f5 rfl rfl rfl rfl rfl rfl rfl ⟨rfl, rfl, rfl, rfl, rfl⟩ rfl rfl rfl rfl rfl (by kernel_rfl) Try.func5 (by kernel_rfl)
    (of_decide_eq_true (by kernel_rfl)) (by unfold Func.isWrapper; first | (rw [if_pos (by decide +kernel)]; kernel_rfl) | (rw [if_neg (by decide +kernel)]; exact ⟨rfl, rfl⟩))
    (fun os started H enc _ => lifted os started H enc)

theorem proved : Rows.FnExactTakenSaid := over
end Go.Proofs.Ytkdmkgpjcbignaa.exTaken
namespace Go.Proofs.Ytkdmkgpjcbignaa
theorem fnExactTaken_holds : Rows.FnExactTakenSaid := exTaken.proved
end Go.Proofs.Ytkdmkgpjcbignaa
