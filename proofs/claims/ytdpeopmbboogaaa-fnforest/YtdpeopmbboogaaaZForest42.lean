/-
  The program's ofTrace: a range over a function, and what it hands on.
-/
import Derived.Test.YtdpeopmbboogaaaZForest05
import Derived.RangeFuncNested
import Derived.RangeFuncBound
import Derived.RangeFuncCalls
import Derived.RangeFuncLeaves
import Derived.Shelf.Abstract
import Derived.Shelf.RegionOpen
import Derived.OwnWalkIn
import Derived.TacticsInMore
import Derived.LoopNIn
import Derived.LoopIn
namespace M1
/-- Of the first k updates those of that kind and trace. -/
def ofT (kd tr : Int) (us : List Upd) : Nat → List Upd
  | 0 => []
  | k + 1 => if (up us k).k = kd ∧ (up us k).tr = tr then ofT kd tr us k ++ [up us k] else ofT kd tr us k
theorem ofT_len (kd tr : Int) (us : List Upd) : ∀ k, (ofT kd tr us k).length ≤ k
  | 0 => Nat.le_refl _
  | k + 1 => by
    have := ofT_len kd tr us k
    unfold ofT
    split
    · simp; omega
    · omega
theorem ofT_yes {kd tr : Int} {us : List Upd} {k : Nat} (h : (up us k).k = kd ∧ (up us k).tr = tr) : ofT kd tr us (k + 1) = ofT kd tr us k ++ [up us k] := by
  show (if (up us k).k = kd ∧ (up us k).tr = tr then _ else _) = _
  rw [if_pos h]
theorem ofT_no {kd tr : Int} {us : List Upd} {k : Nat} (h : ¬ ((up us k).k = kd ∧ (up us k).tr = tr)) : ofT kd tr us (k + 1) = ofT kd tr us k := by
  show (if (up us k).k = kd ∧ (up us k).tr = tr then _ else _) = _
  rw [if_neg h]
end M1
namespace Go.Proofs.Ytdpeopmbboogaaa
open Go.ChangeShapes Go.WideShapes Go.ChangeAt Go.RowKit Go.Shelf
set_option linter.unusedSimpArgs false
attribute [local go_sem] Oper.semAt_some

/-- What a round keeps: all below n₀, and the three boxes from B on. -/
def KpI (n₀ B : Nat) (W W' : World) : Prop := Below n₀ W W' ∧ ∀ b o, B ≤ b → b < B + 3 → W'.cell? ⟨b, o, none⟩ = W.cell? ⟨b, o, none⟩
theorem kpI_refl (n₀ B : Nat) (W : World) : KpI n₀ B W W := ⟨Below.refl _ _, fun _ _ _ _ => rfl⟩
theorem kpI_t {n₀ B : Nat} {X Y Z : World} (h : KpI n₀ B X Y) (k : KpI n₀ B Y Z) : KpI n₀ B X Z := ⟨h.1.trans k.1, fun b o h1 h2 => (k.2 b o h1 h2).trans (h.2 b o h1 h2)⟩
theorem kpI_alloc {n₀ B : Nat} {W : World} (h1 : n₀ ≤ W.heap.size) (h2 : B + 3 ≤ W.heap.size) (o : Obj) : KpI n₀ B W (W.alloc o) :=
  ⟨(Below.refl _ _).alloc h1 o, fun b x _ hb => ((Below.refl _ W).alloc (Nat.le_refl _) o).cell (p := ⟨b, x, none⟩) (by show b < W.heap.size; omega)⟩
theorem kpI_put {n₀ B : Nat} {w : World} (hn : n₀ ≤ w.heap.size) (hB : B + 3 ≤ w.heap.size) (W : World) (l : Nat) (o o' : Obj) (hl : w.heap.size ≤ l) (h : W.heap[l]? = some o) (h1 : o.isCells = false) (h2 : o.isWalk = false) : KpI n₀ B W (W.putObj l o') :=
  ⟨belowK_b hn W l o o' hl h h1 h2, fun b x _ hb => (belowK_b (Nat.le_refl w.heap.size) W l o o' hl h h1 h2).cell (p := ⟨b, x, none⟩) (by show b < w.heap.size; omega)⟩

set_option maxHeartbeats 1000000 in
theorem ofTrace_in (F : Fence) (n : Nat) (hF : F.fn 40) (hro : F.round = none) (a : Option Addr) (len cap : Nat) (kd tr : Int) (w : World) :
    CallsIn F n Try.prog 40 #[.slice a len cap, .int .i64 kd, .int .i64 tr] w fun e w' => e = .returned (.func (.func 67) #[] #[.pointer (some ⟨w.heap.size, 0, none⟩), .pointer (some ⟨w.heap.size + 1, 0, none⟩), .pointer (some ⟨w.heap.size + 1 + 1, 0, none⟩)]) ∧ w' = ((w.alloc (.cells #[.slice a len cap] 24)).alloc (.cells #[.int .i64 kd] 2)).alloc (.cells #[.int .i64 tr] 2) := by
  refine callsIn_of_wp Try.func40 rfl hF ?_ hro
  simp only [Try.ntmps40, List.size_toArray, List.length_cons, List.length_nil, Nat.reduceAdd, Nat.reduceSub, Array.replicate_succ, Array.replicate_zero, List.push_toArray, List.append_toArray, List.nil_append, List.cons_append]
  gi_wp2
  go_ret
  exact ⟨rfl, rfl⟩

set_option maxRecDepth 100000 in
set_option maxHeartbeats 4000000 in
theorem ofTrace1_in (F : Fence) (n : Nat) (hF : F.fn 67) (hro : F.round = none) (hn : 1 ≤ n) (l B n₀ : Nat) (av : Option Addr) (len cap : Nat) (kd tr : Int) (us : List M1.Upd) (W0 : World) (hn0 : n₀ = W0.heap.size) (h1 : IsUpds W0 av len cap us) (J Jx : List M1.Upd → World → Prop) (bJ : Nat) (hAJ : AbidesFrom bJ J)
    (hY : ∀ pre x W, J pre W → pre.length < len → YieldAt F (n - 1) Try.prog l #[.agg #[.int .i64 x.dr, .int .i64 x.dn, .int .i64 x.sw, .int .i64 x.sc, .int .i64 x.sr, .int .i64 x.k, .int .i64 x.tr, .int .i64 x.id, .int .i64 x.pa, .string x.s, .int .i64 x.st, .int .i64 x.en, .int .i64 x.lv]] W fun e W' =>
      (e = .returned (.bool true) ∧ J (pre ++ [x]) W' ∧ KpI n₀ B W W') ∨ (e = .returned (.bool false) ∧ Jx (pre ++ [x]) W'))
    (W : World) (hB0 : Below n₀ W0 W) (hBs : B + 3 ≤ W.heap.size) (b0 : W.cell? ⟨B, 0, none⟩ = some (.slice av len cap)) (b1 : W.cell? ⟨B + 1, 0, none⟩ = some (.int .i64 kd)) (b2 : W.cell? ⟨B + 1 + 1, 0, none⟩ = some (.int .i64 tr)) (h0 : J [] W) :
    CallsIn F n Try.prog 67 #[.func (.yield l) #[] #[], .pointer (some ⟨B, 0, none⟩), .pointer (some ⟨B + 1, 0, none⟩), .pointer (some ⟨B + 1 + 1, 0, none⟩)] W fun e W' => (∃ v, e = .returned v) ∧
      ((∃ ys, ys = M1.ofT kd tr us len ∧ J ys W') ∨ (∃ pre, (∃ k, k ≤ len ∧ pre = M1.ofT kd tr us k) ∧ Jx pre W')) := by
  have hm1 := h1.hcap
  have hm2 := h1.hmost
  unfold maxLen at hm2
  subst hn0
  refine callsIn_of_wp Try.func67 rfl hF ?_ hro
  simp only [Try.ntmps67, List.size_toArray, List.length_cons, List.length_nil, Nat.reduceAdd, Nat.reduceSub, Array.replicate_succ, Array.replicate_zero, List.push_toArray, List.append_toArray, List.nil_append, List.cons_append]
  gi_wp2
  gi_loopw [9] (fun i wr => ∃ k : Nat, k ≤ len ∧ i = .int .i64 k ∧ J (M1.ofT kd tr us k) wr ∧ KpI W0.heap.size B W wr)
    (fun i _ => len - (intOf i).toNat)
  case atStart => exact ⟨0, Nat.zero_le _, rfl, h0, kpI_refl _ _ _⟩
  case round =>
    obtain ⟨k, hk, rfl, hJs, hnx⟩ := hrel
    by_cases hlt : k < len
    · have hB := hB0.trans hnx.1
      rcases (h1.below hB).hlies with h0 | ⟨b, off, rfl, hb, hc⟩
      · omega
      obtain ⟨c0, c1, c2, c3, c4, c5, c6, c7, c8, c9, c10, c11, c12⟩ := hc k hlt
      clear hc
      have hz : B + 3 ≤ wr.heap.size := by have := hnx.1.size; omega
      have x1 := (hnx.2 (B + 1) 0 (by omega) (by omega)).trans b1
      have x2 := (hnx.2 (B + 1 + 1) 0 (by omega) (by omega)).trans b2
      have i0 : (0 : Int) ≤ (k : Int) := by omega
      have i1 : (k : Int) < (len : Int) := by omega
      have n1 : ¬ B + 1 = wr.heap.size := by omega
      have n2 : ¬ B + 1 + 1 = wr.heap.size := by omega
      have hJa : J (M1.ofT kd tr us k) (wr.alloc (.cells #[.int .i64 (M1.up us k).dr, .int .i64 (M1.up us k).dn, .int .i64 (M1.up us k).sw, .int .i64 (M1.up us k).sc, .int .i64 (M1.up us k).sr, .int .i64 (M1.up us k).k, .int .i64 (M1.up us k).tr, .int .i64 (M1.up us k).id, .int .i64 (M1.up us k).pa, .string (M1.up us k).s, .int .i64 (M1.up us k).st, .int .i64 (M1.up us k).en, .int .i64 (M1.up us k).lv] 63)) := hAJ _ _ _ none hJs (World.grownBy_alloc wr _ none) (fun r e => by cases e)
      have hka : KpI W0.heap.size B wr (wr.alloc (.cells #[.int .i64 (M1.up us k).dr, .int .i64 (M1.up us k).dn, .int .i64 (M1.up us k).sw, .int .i64 (M1.up us k).sc, .int .i64 (M1.up us k).sr, .int .i64 (M1.up us k).k, .int .i64 (M1.up us k).tr, .int .i64 (M1.up us k).id, .int .i64 (M1.up us k).pa, .string (M1.up us k).s, .int .i64 (M1.up us k).st, .int .i64 (M1.up us k).en, .int .i64 (M1.up us k).lv] 63)) := kpI_alloc hB.size hz _
      have y1 := (hka.2 (B + 1) 0 (by omega) (by omega)).trans x1
      have y2 := (hka.2 (B + 1 + 1) 0 (by omega) (by omega)).trans x2
      by_cases hq : (M1.up us k).k = kd ∧ (M1.up us k).tr = tr
      · have q1 : ((M1.up us k).k == kd) = true := by simp [hq.1]
        have q2 : ((M1.up us k).tr == tr) = true := by simp [hq.2]
        have HT := M1.ofT_yes hq
        clear hq
        obtain ⟨fn, tmps, assign, body, hy, hR⟩ := hY _ (M1.up us k) _ hJa (by have := M1.ofT_len kd tr us k; omega)
        gi_wp2
        refine hR.mono ?_
        rintro e W3 (⟨rfl, hJ3, hk3⟩ | ⟨rfl, hJx3⟩)
        · gi_wp2
          go_roundw
          case rel => exact ⟨k + 1, by omega, by simp, by rw [HT]; exact hJ3, kpI_t hnx (kpI_t hka hk3)⟩
          case measure => simp [intOf]; omega
        · gi_wp2
          refine bodyPost_ret (results_none rfl _ _ _) rfl ?_
          exact ⟨⟨_, rfl⟩, .inr ⟨_, ⟨k + 1, by omega, HT.symm⟩, hJx3⟩⟩
      · have HT := M1.ofT_no hq
        by_cases hq1 : (M1.up us k).k = kd
        · have q1 : ((M1.up us k).k == kd) = true := by simp [hq1]
          have q2 : ((M1.up us k).tr == tr) = false := by simp; exact fun e => hq ⟨hq1, e⟩
          clear hq hq1
          gi_wp2
          refine ⟨fun _ h => (by cases h), ?_⟩
          gi_wp2
          go_roundw
          case rel => exact ⟨k + 1, by omega, by simp, by rw [HT]; exact hJa, kpI_t hnx hka⟩
          case measure => simp [intOf]; omega
        · have q1 : ((M1.up us k).k == kd) = false := by simp [hq1]
          clear hq hq1
          gi_wp2
          refine ⟨fun _ h => (by cases h), ?_⟩
          gi_wp2
          go_roundw
          case rel => exact ⟨k + 1, by omega, by simp, by rw [HT]; exact hJa, kpI_t hnx hka⟩
          case measure => simp [intOf]; omega
    · obtain rfl : k = len := by omega
      gi_wp2
      go_end0
      exact ⟨⟨_, rfl⟩, .inl ⟨_, rfl, hJs⟩⟩
end Go.Proofs.Ytdpeopmbboogaaa
