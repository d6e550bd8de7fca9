/-
  Texts of one proof, joined: RangeJ, Iter.
-/
import Derived.Test.YtdpeopmbboogaaaZLongest25
import Derived.Test.YtdpeopmbboogaaaZLongest38
import Derived.Test.YtdpeopmbboogaaaZLongest04
import Derived.RangeFuncNested
import Derived.RangeFuncBound
import Derived.RangeFuncCalls
import Derived.RangeFuncLeaves
import Derived.Shelf.Abstract
import Derived.Shelf.RegionOpen
import Derived.OwnWalkIn
import Derived.TacticsInMore
import Derived.LoopNIn
import Derived.LoopIn
namespace Go.Proofs.Ytdpeopmbboogaaa
open Go.ChangeShapes Go.WideShapes Go.ChangeAt Go.RowKit
open Go.ChangeMaps (setBlock)
set_option linter.unusedSimpArgs false
set_option linter.unusedVariables false

/-- An entry of it: its place. -/
theorem entryJ_at {es : Array MapEntry} {us : List M1.Upd} (h2 : es.toList.map (fun e => (e.key, e.val)) = us.map (fun u => (.int .i64 u.id, uv u))) (h3 : es.toList.map (·.born) = List.range us.length) {e : MapEntry} (he : e ∈ es.toList) :
    e.born < us.length ∧ e.key = .int .i64 (M1.up us e.born).id ∧ e.val = uv (M1.up us e.born) := by
  obtain ⟨j, hj⟩ := List.mem_iff_getElem?.1 he
  have b1 : (es.toList.map (·.born))[j]? = some e.born := by rw [List.getElem?_map, hj]; rfl
  rw [h3] at b1
  have b2 := List.getElem?_eq_some_iff.1 b1
  obtain ⟨b3, b4⟩ := b2
  simp at b3 b4
  have k1 : (es.toList.map (fun e => (e.key, e.val)))[j]? = some (e.key, e.val) := by rw [List.getElem?_map, hj]; rfl
  rw [h2, List.getElem?_map, List.getElem?_eq_getElem b3] at k1
  simp at k1
  have hu : M1.up us j = us[j] := by simp [M1.up, List.getD, b3]
  rw [← b4, hu]
  exact ⟨b3, k1.1.symm, k1.2.symm⟩

/-- Block r is an iterator over that map that has handed out the places sn. -/
structure ItJ (w : World) (r b : Nat) (us : List M1.Upd) (sn : List Nat) : Prop where
  it : w.heap[r]? = some (.mapIter (some b) us.length sn.toArray us.length)
  map : MapJ w b us
  nd : sn.Nodup
  lt : ∀ i ∈ sn, i < us.length

theorem ItJ.rlt {w : World} {r b : Nat} {us : List M1.Upd} {sn : List Nat} (h : ItJ w r b us sn) : r < w.heap.size := (Array.getElem?_eq_some_iff.1 h.it).1
theorem ItJ.ne {w : World} {r b : Nat} {us : List M1.Upd} {sn : List Nat} (h : ItJ w r b us sn) : ¬ r = b := fun e => by
  obtain ⟨es, hb, _⟩ := h.map
  have := h.it
  rw [e, hb] at this
  cases this
theorem ItJ.kept {w w' : World} {r b : Nat} {us : List M1.Upd} {sn : List Nat} (h : ItJ w r b us sn) (e1 : w'.heap[r]? = w.heap[r]?) (e2 : w'.heap[b]? = w.heap[b]?) : ItJ w' r b us sn := ⟨e1.trans h.it, h.map.block e2, h.nd, h.lt⟩
theorem ItJ.below {w w' : World} {r b : Nat} {us : List M1.Upd} {sn : List Nat} (h : ItJ w r b us sn) (hB : Below w.heap.size w w') : ItJ w' r b us sn := h.kept (hB.block r h.rlt) (hB.block b h.map.lt)
theorem ItJ.len {w : World} {r b : Nat} {us : List M1.Upd} {sn : List Nat} (h : ItJ w r b us sn) : sn.length ≤ us.length := by
  have hs : sn ⊆ List.range us.length := fun i hi => by simp; exact h.lt i hi
  have := M1.nodup_sub h.nd hs
  simpa using this

theorem itJ_made {w : World} {b : Nat} {us : List M1.Upd} (h : MapJ w b us) : ItJ (w.alloc (.mapIter (some b) us.length #[] us.length)) w.heap.size b us [] := by
  refine ⟨heap_alloc_new w _, h.below ((Below.refl w.heap.size w).alloc (Nat.le_refl _) _) h.lt, List.nodup_nil, fun i hi => by cases hi⟩

theorem run_nextJ {w : World} {r b : Nat} {us : List M1.Upd} {sn : List Nat} (h : ItJ w r b us sn) (ty : TypeId) :
    (sn.length = us.length ∧ (Instr.next (.pointer (some ⟨r, 0, none⟩)) false ty).run Try.prog w = .ok (.tuple #[.bool false]) w) ∨
    ∃ i w', i < us.length ∧ (Instr.next (.pointer (some ⟨r, 0, none⟩)) false ty).run Try.prog w = .ok (.tuple #[.bool true, .int .i64 (M1.up us i).id, uv (M1.up us i)]) w' ∧ ItJ w' r b us (sn ++ [i]) ∧ w.grownBy w' (some r) ∧ w'.heap.size = w.heap.size ∧
      (Instr.entry (.pointer (some ⟨r, 0, none⟩))).run Try.prog w' = .ok (.tuple #[.int .i64 (M1.up us i).id, uv (M1.up us i)]) w' := by
  have hne := h.ne
  obtain ⟨es, hb, h2, h3⟩ := h.map
  have hold : ∀ x ∈ es.toList, x.born < us.length := fun x hx => (entryJ_at h2 h3 hx).1
  rcases run_next_at (P := Try.prog) w ty r b us.length us.length sn.toArray es us.length h.it hb hold (Nat.le_refl _) with ⟨h0, hrun⟩ | ⟨e, he, w1, hw1, hrun⟩
  · left
    refine ⟨?_, hrun⟩
    have hall : List.range us.length ⊆ sn := fun i hi => by
      have hi' : i ∈ es.toList.map (·.born) := by rw [h3]; exact hi
      obtain ⟨e, he, rfl⟩ := List.mem_map.1 hi'
      by_cases hc : e.born ∈ sn
      · exact hc
      · have : e ∈ (leftOf es sn.toArray).toList := by
          unfold leftOf
          simp
          exact ⟨by simpa using he, hc⟩
        have hz : (leftOf es sn.toArray).toList = [] := by
          have : leftOf es sn.toArray = #[] := Array.eq_empty_of_size_eq_zero h0
          rw [this]
        rw [hz] at this
        cases this
    have l1 := h.len
    have l2 := M1.nodup_sub (List.nodup_range) hall
    simp at l2
    omega
  · right
    have he2 : e ∈ es.toList ∧ e.born ∉ sn := by
      unfold leftOf at he
      simp at he
      exact ⟨by simpa using he.1, he.2⟩
    obtain ⟨hlt, hk, hv⟩ := entryJ_at h2 h3 he2.1
    have hr1 : w1.heap[r]? = some (.mapIter (some b) us.length sn.toArray us.length) := by rcases hw1 with rfl | rfl <;> exact h.it
    have hb1 : w1.heap[b]? = some (.map es us.length) := by rcases hw1 with rfl | rfl <;> exact hb
    have hs1 : w1.heap = w.heap := by rcases hw1 with rfl | rfl <;> rfl
    have hitr : (setBlock w1 r (.mapIter (some b) us.length (sn.toArray.push e.born) us.length)).heap[r]? = some (.mapIter (some b) us.length (sn.toArray.push e.born) us.length) := by
      have := (Array.getElem?_eq_some_iff.1 hr1).1
      simp [setBlock, this]
    have hmap : (setBlock w1 r (.mapIter (some b) us.length (sn.toArray.push e.born) us.length)).heap[b]? = some (.map es us.length) := by
      simp [setBlock, hne, hb1]
    refine ⟨e.born, setBlock w1 r (.mapIter (some b) us.length (sn.toArray.push e.born) us.length), hlt, by rw [hrun, ← hk, ← hv], ⟨by rw [hitr]; simp, ⟨es, hmap, h2, h3⟩, ?_, ?_⟩, ?_, by simp [setBlock, hs1], ?_⟩
    · rw [List.nodup_append]
      exact ⟨h.nd, by simp, fun x hx y hy => by simp at hy; subst hy; intro e; subst e; exact he2.2 hx⟩
    · intro i hi
      rcases List.mem_append.1 hi with hi | hi
      · exact h.lt i hi
      · simp at hi; rw [hi]; exact hlt
    · refine ⟨?_, ?_, ?_, by simp [setBlock, hs1], fun k hk hn => ?_⟩
      · rcases hw1 with rfl | rfl <;> rfl
      · rcases hw1 with rfl | rfl <;> rfl
      · rcases hw1 with rfl | rfl <;> rfl
      · have : ¬ r = k := fun e => hn (by rw [e])
        simp [setBlock, this, hs1]
    · have := run_entry_at (P := Try.prog) (setBlock w1 r (.mapIter (some b) us.length (sn.toArray.push e.born) us.length)) r b us.length sn.toArray es us.length e hitr hmap he2.1 (by rw [h3]; exact List.nodup_range)
      rw [this, ← hk, ← hv]

theorem wpList_rangeJ {w : World} {ops : Array Oper} {rest : List Oper} {o : Oper} {a : Act} {Q : Exit → Act → World → Prop}
    (hg : o.guard = none) (m : Operand) (hop : o.op = Op.range 66 m) (b : Nat) (us : List M1.Upd) (hm : a.eval m = .map (some b)) (hown : MapJ w b us)
    (hK : ∀ w', ItJ w' w.heap.size b us [] → Below w.heap.size w w' → w'.heap.size = w.heap.size + 1 → wpList Try.prog ops Q rest (a.put o.dst (.pointer (some ⟨w.heap.size, 0, none⟩))) w') :
    wpList Try.prog ops Q (o :: rest) a w := by
  refine wpList_plain hg fun K' hK' => ?_
  obtain ⟨es, hb, h2⟩ := hown
  have hrun := run_range_map (P := Try.prog) w 66 _ _ b es us.length Try.underlying66 hb
  unfold Oper.wp
  simp [execOp, hop, hm, hrun, Result.andThen]
  exact hK' _ _ (hK _ (itJ_made ⟨es, hb, h2⟩) ((Below.refl _ _).alloc (Nat.le_refl _) _) (by simp))

theorem wpList_nextJ {w : World} {ops : Array Oper} {rest : List Oper} {o : Oper} {a : Act} {Q : Exit → Act → World → Prop}
    (hg : o.guard = none) (it : Operand) (hop : o.op = Op.next it false) (r b : Nat) (us : List M1.Upd) (sn : List Nat) (hit : a.eval it = .pointer (some ⟨r, 0, none⟩)) (h : ItJ w r b us sn)
    (hDone : sn.length = us.length → wpList Try.prog ops Q rest (a.put o.dst (.tuple #[.bool false])) w)
    (hMore : ∀ i w', i < us.length → ItJ w' r b us (sn ++ [i]) → w.grownBy w' (some r) → w'.heap.size = w.heap.size → (Instr.entry (.pointer (some ⟨r, 0, none⟩))).run Try.prog w' = .ok (.tuple #[.int .i64 (M1.up us i).id, uv (M1.up us i)]) w' →
      wpList Try.prog ops Q rest (a.put o.dst (.tuple #[.bool true, .int .i64 (M1.up us i).id, uv (M1.up us i)])) w') :
    wpList Try.prog ops Q (o :: rest) a w := by
  refine wpList_plain hg fun K' hK' => ?_
  unfold Oper.wp
  rcases run_nextJ h o.type with ⟨h0, hrun⟩ | ⟨i, w', hi, hrun, h1, h2, h3, h4⟩
  · simp [execOp, hop, hit, hrun, Result.andThen]
    exact hK' _ _ (hDone h0)
  · simp [execOp, hop, hit, hrun, Result.andThen]
    exact hK' _ _ (hMore i w' hi h1 h2 h3 h4)
end Go.Proofs.Ytdpeopmbboogaaa

namespace M1
/-- Of the first k updates those of that kind and trace. -/
def ofT (kd tr : Int) (us : List Upd) : Nat → List Upd
  | 0 => []
  | k + 1 => if (up us k).k = kd ∧ (up us k).tr = tr then ofT kd tr us k ++ [up us k] else ofT kd tr us k
theorem ofT_len (kd tr : Int) (us : List Upd) : ∀ k, (ofT kd tr us k).length ≤ k
  | 0 => Nat.le_refl _
  | k + 1 => by
    have := ofT_len kd tr us k
    unfold ofT
    split
    · simp; omega
    · omega
theorem ofT_yes {kd tr : Int} {us : List Upd} {k : Nat} (h : (up us k).k = kd ∧ (up us k).tr = tr) : ofT kd tr us (k + 1) = ofT kd tr us k ++ [up us k] := by
  show (if (up us k).k = kd ∧ (up us k).tr = tr then _ else _) = _
  rw [if_pos h]
theorem ofT_no {kd tr : Int} {us : List Upd} {k : Nat} (h : ¬ ((up us k).k = kd ∧ (up us k).tr = tr)) : ofT kd tr us (k + 1) = ofT kd tr us k := by
  show (if (up us k).k = kd ∧ (up us k).tr = tr then _ else _) = _
  rw [if_neg h]
end M1
namespace Go.Proofs.Ytdpeopmbboogaaa
open Go.ChangeShapes Go.WideShapes Go.ChangeAt Go.RowKit Go.Shelf
set_option linter.unusedSimpArgs false
attribute [local go_sem] Oper.semAt_some

/-- What a round keeps: all below n₀, and the three boxes from B on. -/
def KpI (n₀ B : Nat) (W W' : World) : Prop := Below n₀ W W' ∧ ∀ b o, B ≤ b → b < B + 3 → W'.cell? ⟨b, o, none⟩ = W.cell? ⟨b, o, none⟩
theorem kpI_refl (n₀ B : Nat) (W : World) : KpI n₀ B W W := ⟨Below.refl _ _, fun _ _ _ _ => rfl⟩
theorem kpI_t {n₀ B : Nat} {X Y Z : World} (h : KpI n₀ B X Y) (k : KpI n₀ B Y Z) : KpI n₀ B X Z := ⟨h.1.trans k.1, fun b o h1 h2 => (k.2 b o h1 h2).trans (h.2 b o h1 h2)⟩
theorem kpI_alloc {n₀ B : Nat} {W : World} (h1 : n₀ ≤ W.heap.size) (h2 : B + 3 ≤ W.heap.size) (o : Obj) : KpI n₀ B W (W.alloc o) :=
  ⟨(Below.refl _ _).alloc h1 o, fun b x _ hb => ((Below.refl _ W).alloc (Nat.le_refl _) o).cell (p := ⟨b, x, none⟩) (by show b < W.heap.size; omega)⟩
theorem kpI_put {n₀ B : Nat} {w : World} (hn : n₀ ≤ w.heap.size) (hB : B + 3 ≤ w.heap.size) (W : World) (l : Nat) (o o' : Obj) (hl : w.heap.size ≤ l) (h : W.heap[l]? = some o) (h1 : o.isCells = false) (h2 : o.isWalk = false) : KpI n₀ B W (W.putObj l o') :=
  ⟨belowK_b hn W l o o' hl h h1 h2, fun b x _ hb => (belowK_b (Nat.le_refl w.heap.size) W l o o' hl h h1 h2).cell (p := ⟨b, x, none⟩) (by show b < w.heap.size; omega)⟩

set_option maxHeartbeats 1000000 in
theorem ofTrace_in (F : Fence) (n : Nat) (hF : F.fn 40) (hro : F.round = none) (a : Option Addr) (len cap : Nat) (kd tr : Int) (w : World) :
    CallsIn F n Try.prog 40 #[.slice a len cap, .int .i64 kd, .int .i64 tr] w fun e w' => e = .returned (.func (.func 67) #[] #[.pointer (some ⟨w.heap.size, 0, none⟩), .pointer (some ⟨w.heap.size + 1, 0, none⟩), .pointer (some ⟨w.heap.size + 1 + 1, 0, none⟩)]) ∧ w' = ((w.alloc (.cells #[.slice a len cap] 24)).alloc (.cells #[.int .i64 kd] 2)).alloc (.cells #[.int .i64 tr] 2) := by
  refine callsIn_of_wp Try.func40 rfl hF ?_ hro
  simp only [Try.ntmps40, List.size_toArray, List.length_cons, List.length_nil, Nat.reduceAdd, Nat.reduceSub, Array.replicate_succ, Array.replicate_zero, List.push_toArray, List.append_toArray, List.nil_append, List.cons_append]
  gi_wp2
  go_ret
  exact ⟨rfl, rfl⟩

set_option maxRecDepth 100000 in
set_option maxHeartbeats 4000000 in
theorem ofTrace1_in (F : Fence) (n : Nat) (hF : F.fn 67) (hro : F.round = none) (hn : 1 ≤ n) (l B n₀ : Nat) (av : Option Addr) (len cap : Nat) (kd tr : Int) (us : List M1.Upd) (W0 : World) (hn0 : n₀ = W0.heap.size) (h1 : IsUpds W0 av len cap us) (J Jx : List M1.Upd → World → Prop) (bJ : Nat) (hAJ : AbidesFrom bJ J)
    (hY : ∀ pre x W, J pre W → pre.length < len → YieldAt F (n - 1) Try.prog l #[.agg #[.int .i64 x.dr, .int .i64 x.dn, .int .i64 x.sw, .int .i64 x.sc, .int .i64 x.sr, .int .i64 x.k, .int .i64 x.tr, .int .i64 x.id, .int .i64 x.pa, .string x.s, .int .i64 x.st, .int .i64 x.en, .int .i64 x.lv]] W fun e W' =>
      (e = .returned (.bool true) ∧ J (pre ++ [x]) W' ∧ KpI n₀ B W W') ∨ (e = .returned (.bool false) ∧ Jx (pre ++ [x]) W'))
    (W : World) (hB0 : Below n₀ W0 W) (hBs : B + 3 ≤ W.heap.size) (b0 : W.cell? ⟨B, 0, none⟩ = some (.slice av len cap)) (b1 : W.cell? ⟨B + 1, 0, none⟩ = some (.int .i64 kd)) (b2 : W.cell? ⟨B + 1 + 1, 0, none⟩ = some (.int .i64 tr)) (h0 : J [] W) :
    CallsIn F n Try.prog 67 #[.func (.yield l) #[] #[], .pointer (some ⟨B, 0, none⟩), .pointer (some ⟨B + 1, 0, none⟩), .pointer (some ⟨B + 1 + 1, 0, none⟩)] W fun e W' => (∃ v, e = .returned v) ∧
      ((∃ ys, ys = M1.ofT kd tr us len ∧ J ys W') ∨ (∃ pre, (∃ k, k ≤ len ∧ pre = M1.ofT kd tr us k) ∧ Jx pre W')) := by
  have hm1 := h1.hcap
  have hm2 := h1.hmost
  unfold maxLen at hm2
  subst hn0
  refine callsIn_of_wp Try.func67 rfl hF ?_ hro
  simp only [Try.ntmps67, List.size_toArray, List.length_cons, List.length_nil, Nat.reduceAdd, Nat.reduceSub, Array.replicate_succ, Array.replicate_zero, List.push_toArray, List.append_toArray, List.nil_append, List.cons_append]
  gi_wp2
  gi_loopw [9] (fun i wr => ∃ k : Nat, k ≤ len ∧ i = .int .i64 k ∧ J (M1.ofT kd tr us k) wr ∧ KpI W0.heap.size B W wr)
    (fun i _ => len - (intOf i).toNat)
  case atStart => exact ⟨0, Nat.zero_le _, rfl, h0, kpI_refl _ _ _⟩
  case round =>
    obtain ⟨k, hk, rfl, hJs, hnx⟩ := hrel
    by_cases hlt : k < len
    · have hB := hB0.trans hnx.1
      rcases (h1.below hB).hlies with h0 | ⟨b, off, rfl, hb, hc⟩
      · omega
      obtain ⟨c0, c1, c2, c3, c4, c5, c6, c7, c8, c9, c10, c11, c12⟩ := hc k hlt
      clear hc
      have hz : B + 3 ≤ wr.heap.size := by have := hnx.1.size; omega
      have x1 := (hnx.2 (B + 1) 0 (by omega) (by omega)).trans b1
      have x2 := (hnx.2 (B + 1 + 1) 0 (by omega) (by omega)).trans b2
      have i0 : (0 : Int) ≤ (k : Int) := by omega
      have i1 : (k : Int) < (len : Int) := by omega
      have n1 : ¬ B + 1 = wr.heap.size := by omega
      have n2 : ¬ B + 1 + 1 = wr.heap.size := by omega
      have hJa : J (M1.ofT kd tr us k) (wr.alloc (.cells #[.int .i64 (M1.up us k).dr, .int .i64 (M1.up us k).dn, .int .i64 (M1.up us k).sw, .int .i64 (M1.up us k).sc, .int .i64 (M1.up us k).sr, .int .i64 (M1.up us k).k, .int .i64 (M1.up us k).tr, .int .i64 (M1.up us k).id, .int .i64 (M1.up us k).pa, .string (M1.up us k).s, .int .i64 (M1.up us k).st, .int .i64 (M1.up us k).en, .int .i64 (M1.up us k).lv] 63)) := hAJ _ _ _ none hJs (World.grownBy_alloc wr _ none) (fun r e => by cases e)
      have hka : KpI W0.heap.size B wr (wr.alloc (.cells #[.int .i64 (M1.up us k).dr, .int .i64 (M1.up us k).dn, .int .i64 (M1.up us k).sw, .int .i64 (M1.up us k).sc, .int .i64 (M1.up us k).sr, .int .i64 (M1.up us k).k, .int .i64 (M1.up us k).tr, .int .i64 (M1.up us k).id, .int .i64 (M1.up us k).pa, .string (M1.up us k).s, .int .i64 (M1.up us k).st, .int .i64 (M1.up us k).en, .int .i64 (M1.up us k).lv] 63)) := kpI_alloc hB.size hz _
      have y1 := (hka.2 (B + 1) 0 (by omega) (by omega)).trans x1
      have y2 := (hka.2 (B + 1 + 1) 0 (by omega) (by omega)).trans x2
      by_cases hq : (M1.up us k).k = kd ∧ (M1.up us k).tr = tr
      · have q1 : ((M1.up us k).k == kd) = true := by simp [hq.1]
        have q2 : ((M1.up us k).tr == tr) = true := by simp [hq.2]
        have HT := M1.ofT_yes hq
        clear hq
        obtain ⟨fn, tmps, assign, body, hy, hR⟩ := hY _ (M1.up us k) _ hJa (by have := M1.ofT_len kd tr us k; omega)
        gi_wp2
        refine hR.mono ?_
        rintro e W3 (⟨rfl, hJ3, hk3⟩ | ⟨rfl, hJx3⟩)
        · gi_wp2
          go_roundw
          case rel => exact ⟨k + 1, by omega, by simp, by rw [HT]; exact hJ3, kpI_t hnx (kpI_t hka hk3)⟩
          case measure => simp [intOf]; omega
        · gi_wp2
          refine bodyPost_ret (results_none rfl _ _ _) rfl ?_
          exact ⟨⟨_, rfl⟩, .inr ⟨_, ⟨k + 1, by omega, HT.symm⟩, hJx3⟩⟩
      · have HT := M1.ofT_no hq
        by_cases hq1 : (M1.up us k).k = kd
        · have q1 : ((M1.up us k).k == kd) = true := by simp [hq1]
          have q2 : ((M1.up us k).tr == tr) = false := by simp; exact fun e => hq ⟨hq1, e⟩
          clear hq hq1
          gi_wp2
          refine ⟨fun _ h => (by cases h), ?_⟩
          gi_wp2
          go_roundw
          case rel => exact ⟨k + 1, by omega, by simp, by rw [HT]; exact hJa, kpI_t hnx hka⟩
          case measure => simp [intOf]; omega
        · have q1 : ((M1.up us k).k == kd) = false := by simp [hq1]
          clear hq hq1
          gi_wp2
          refine ⟨fun _ h => (by cases h), ?_⟩
          gi_wp2
          go_roundw
          case rel => exact ⟨k + 1, by omega, by simp, by rw [HT]; exact hJa, kpI_t hnx hka⟩
          case measure => simp [intOf]; omega
    · obtain rfl : k = len := by omega
      gi_wp2
      go_end0
      exact ⟨⟨_, rfl⟩, .inl ⟨_, rfl, hJs⟩⟩
end Go.Proofs.Ytdpeopmbboogaaa
