/-
  Texts of one proof, joined: Sn1, Math33b, Iter.
-/
import Derived.Test.YtccendmoeelniaaGreatDoorZIssued03
import Derived.Test.YtccendmoeelniaaGreatDoorRows
import Derived.Stop.LaidTwo
import Derived.LaidMore
import Derived.Test.YtccendmoeelniaaGreatDoorZIssued19
import Derived.Test.YtccendmoeelniaaGreatDoorZIssued05
import Derived.RangeFuncNested
import Derived.RangeFuncBound
import Derived.RangeFuncCalls
import Derived.RangeFuncLeaves
import Derived.Shelf.Abstract
import Derived.Shelf.RegionOpen
import Derived.OwnWalkIn
import Derived.TacticsInMore
import Derived.LoopNIn
import Derived.LoopIn
namespace Go.Proofs.YtccendmoeelniaaGreatDoor
open Go.ChangeShapes Go.WideShapes Go.ChangeAt Go.RowKit
set_option linter.unusedVariables false
theorem trodVars_len {H : Type} {enc : TypeId × Value → H} {P : Program} {W : World} {sp : Nat → Bool} : ∀ {ns : List String} {gs : List (DataW H)} {ps : List MemPlace}, DataW.TrodVars enc P W sp ns gs ps → gs.length = ns.length
  | [], [], _, _ => rfl
  | [], _ :: _, _, h => h.elim
  | _ :: _, [], _, h => h.elim
  | n :: ns, d :: ds, ps, h => by
    obtain ⟨_, _, _, _, _, _, _, _, _, _, hs, _⟩ := h
    simp [trodVars_len hs]

theorem list5 {A : Type} {l : List A} (h : l.length = 5) : ∃ a b c d e, l = [a, b, c, d, e] := by
  match l, h with
  | [a, b, c, d, e], _ => exact ⟨a, b, c, d, e, rfl⟩

def LL : List (String × DataW Unit) := Rows.fnExactReceivedRow.laid

theorem hd_rt : (Tryz.prog.cutTypes.find? (·.1 == "internal/reflectlite.rtype")).map (·.2) = some 187 := by kernel_rfl

theorem hd_et : Tryz.prog.globalNamed "errors.errorType" = some 5 := by kernel_rfl

theorem hd_size : Tryz.prog.types.size = 258 := by kernel_rfl

theorem hd_one : ((List.range 258).filter fun t => Tryz.prog.rowNamed t [101, 114, 114, 111, 114]) = [82] := by kernel_rfl

theorem handle_of {W : World} (h : handlesMet Tryz.prog (LL.take 1) W) : W.cell? ⟨5, 0, none⟩ = some (.iface 187 (rt 82)) := by
  obtain ⟨name, u, ty, e1, e2, e3, e4, e5⟩ := h ("errors.errorType", Rows.laid_errors_errorType) (by exact List.mem_cons_self)
  have en : name = [101, 114, 114, 111, 114] := (Option.some.inj e1).symm
  subst en
  obtain rfl := Option.some.inj (hd_rt.symm.trans e2)
  have hm : ty ∈ (List.range 258).filter fun t => Tryz.prog.rowNamed t [101, 114, 114, 111, 114] := List.mem_filter.2 ⟨List.mem_range.2 (by rw [← hd_size]; exact e3), e4⟩
  rw [hd_one] at hm
  obtain rfl := List.mem_singleton.1 hm
  have hh : typeHandle Tryz.prog 82 = .pointer (some ⟨6, 82, none⟩) := by kernel_rfl
  rw [hh] at e5
  simpa using World.var?_cell hd_et e5 0

theorem hd_star : "*" ++ "errors.errorString" = "*errors.errorString" := by decide

theorem hd_row (u : TypeId) (h : Tryz.prog.typeName? 3 u = some "*errors.errorString") : u = 223 :=
  typeName_ptr_named (nm := "errors.errorString") (by rw [hd_star]; kernel_rfl) (by kernel_rfl) (by decide) u (by rw [hd_star]; exact h)

theorem hd_c1 : Tryz.prog.cellsOf 243 = 1 := by kernel_rfl

theorem hd_c2 : Tryz.prog.cellsOf 9 = 1 := by kernel_rfl

theorem hd_p : laidMetH Tryz.prog LL = fun W => laidMet Tryz.prog (LL.drop 1) W ∧ handlesMet Tryz.prog (LL.take 1) W := rfl

theorem ne_of {W : World} {a b : Addr} {s t : ByteArray} (ha : W.cell? a = some (.string s)) (hb : W.cell? b = some (.string t)) (h : ¬ s.data.toList = t.data.toList) : a ≠ b := fun e => by
  rw [e, hb] at ha
  injection ha with ha
  injection ha with ha
  exact h (by rw [ha])

set_option maxRecDepth 100000 in
theorem sens_of {W : World} (h : laidMetH Tryz.prog LL W) : ∃ s0 s1 s2 s3 s4, Sens W s0 s1 s2 s3 s4 := by
  have h' : laidMet Tryz.prog (LL.drop 1) W ∧ handlesMet Tryz.prog (LL.take 1) W := by rw [hd_p] at h; exact h
  have ct := handle_of h'.2
  have q1 := h'.1
  have q2 : laidMet Tryz.prog (LL.drop 3) W := q1.tail.tail
  have q3 : laidMet Tryz.prog (LL.drop 4) W := q2.tail
  obtain ⟨a0, a1, s0, s1, c0, c1, t0, t1, hv0, hv1, hc0, hs0, _, hc1, hs1, _, n01, hb0, hb1⟩ := laid_sentinels2 (P := Tryz.prog) (g0 := 0) (g1 := 1) (tp := 223) q1 (by kernel_rfl) (by kernel_rfl) (by kernel_rfl) (by kernel_rfl) Tryz.underlying82 hd_row Tryz.underlying223 Tryz.underlying243 rfl rfl Tryz.underlying9 hd_c1 hd_c2
  obtain ⟨a4, a3, s4, s3, c4, c3, t4, t3, hv4, hv3, hc4, hs4, _, hc3, hs3, _, n43, hb4, hb3⟩ := laid_sentinels2 (P := Tryz.prog) (g0 := 4) (g1 := 3) (tp := 223) q2 (by kernel_rfl) (by kernel_rfl) (by kernel_rfl) (by kernel_rfl) Tryz.underlying82 hd_row Tryz.underlying223 Tryz.underlying243 rfl rfl Tryz.underlying9 hd_c1 hd_c2
  obtain ⟨_, a2, _, s2, _, c2, _, t2, _, hv2, _, _, _, hc2, hs2, _, _, _, hb2⟩ := laid_sentinels2 (P := Tryz.prog) (g0 := 3) (g1 := 2) (tp := 223) q3 (by kernel_rfl) (by kernel_rfl) (by kernel_rfl) (by kernel_rfl) Tryz.underlying82 hd_row Tryz.underlying223 Tryz.underlying243 rfl rfl Tryz.underlying9 hd_c1 hd_c2
  have v0 : W.cell? ⟨0, 0, none⟩ = some (es a0) := by simpa using World.var?_cell (P := Tryz.prog) (g := 0) (by kernel_rfl) hv0 0
  have v1 : W.cell? ⟨1, 0, none⟩ = some (es a1) := by simpa using World.var?_cell (P := Tryz.prog) (g := 1) (by kernel_rfl) hv1 0
  have v2 : W.cell? ⟨2, 0, none⟩ = some (es a2) := by simpa using World.var?_cell (P := Tryz.prog) (g := 2) (by kernel_rfl) hv2 0
  have v3 : W.cell? ⟨3, 0, none⟩ = some (es a3) := by simpa using World.var?_cell (P := Tryz.prog) (g := 3) (by kernel_rfl) hv3 0
  have v4 : W.cell? ⟨4, 0, none⟩ = some (es a4) := by simpa using World.var?_cell (P := Tryz.prog) (g := 4) (by kernel_rfl) hv4 0
  have g5 : 5 < W.heap.size := by
    rcases Nat.lt_or_ge 5 W.heap.size with q | q
    · exact q
    · have : W.heap[5]? = none := Array.getElem?_eq_none q
      simp [World.cell?, this] at ct
  exact ⟨a0, a1, a2, a3, a4, v0, v1, v2, v3, v4, ct, ⟨_, _, hb0⟩, ⟨_, _, hb1⟩, ⟨_, _, hb2⟩, ⟨_, _, hb3⟩, ⟨_, _, hb4⟩, n01, ne_of hc0 hc2 (by rw [hs0, hs2]; decide), ne_of hc0 hc3 (by rw [hs0, hs3]; decide), ne_of hc0 hc4 (by rw [hs0, hs4]; decide), ne_of hc1 hc2 (by rw [hs1, hs2]; decide), ne_of hc1 hc3 (by rw [hs1, hs3]; decide), ne_of hc1 hc4 (by rw [hs1, hs4]; decide), ne_of hc2 hc3 (by rw [hs2, hs3]; decide), ne_of hc2 hc4 (by rw [hs2, hs4]; decide), ne_of hc3 hc4 (by rw [hs3, hs4]; decide), g5⟩

end Go.Proofs.YtccendmoeelniaaGreatDoor

namespace M1
theorem tO_one {us : List Upd} {u : Upd} (h : setOk us = true) (hu : okU u = true) : tO us [u] = if u.dn = fm (l3v us) u.dr + 1 then insD us u else us := by
  obtain ⟨d1, d5, _, _⟩ := okU_dot hu
  have hs := ok_sorted (setOk_all h)
  have hl := (LInv.start (setOk_all h)).fm hs d1 d5
  show tkO us [u] 1 = _
  have e0 : up [u] 0 = u := rfl
  rw [tkO, e0, hl]
  rfl

theorem one_pre {us : List Upd} {u : Upd} (h : setOk us = true) (hu : okU u = true) : tpre us [u] = true := by
  unfold tpre
  rw [h, allR_yes (ys := [u]) fun j hj => by
    have : j = 0 := by simp at hj; omega
    subst this; exact hu]
  rfl

end M1

namespace M1
def ofT (kd tr : Int) (us : List Upd) : Nat → List Upd
  | 0 => []
  | k + 1 => if (up us k).k = kd ∧ (up us k).tr = tr then ofT kd tr us k ++ [up us k] else ofT kd tr us k

theorem ofT_len (kd tr : Int) (us : List Upd) : ∀ k, (ofT kd tr us k).length ≤ k
  | 0 => Nat.le_refl _
  | k + 1 => by
    have := ofT_len kd tr us k
    unfold ofT
    split
    · simp; omega
    · omega

theorem ofT_yes {kd tr : Int} {us : List Upd} {k : Nat} (h : (up us k).k = kd ∧ (up us k).tr = tr) : ofT kd tr us (k + 1) = ofT kd tr us k ++ [up us k] := by
  show (if (up us k).k = kd ∧ (up us k).tr = tr then _ else _) = _
  rw [if_pos h]

theorem ofT_no {kd tr : Int} {us : List Upd} {k : Nat} (h : ¬ ((up us k).k = kd ∧ (up us k).tr = tr)) : ofT kd tr us (k + 1) = ofT kd tr us k := by
  show (if (up us k).k = kd ∧ (up us k).tr = tr then _ else _) = _
  rw [if_neg h]

end M1
namespace Go.Proofs.YtccendmoeelniaaGreatDoor
open Go.ChangeShapes Go.WideShapes Go.ChangeAt Go.RowKit Go.Shelf
set_option linter.unusedSimpArgs false
attribute [local go_sem] Oper.semAt_some
def KpI (n₀ B : Nat) (W W' : World) : Prop := Below n₀ W W' ∧ ∀ b o, B ≤ b → b < B + 3 → W'.cell? ⟨b, o, none⟩ = W.cell? ⟨b, o, none⟩

theorem kpI_refl (n₀ B : Nat) (W : World) : KpI n₀ B W W := ⟨Below.refl _ _, fun _ _ _ _ => rfl⟩

theorem kpI_t {n₀ B : Nat} {X Y Z : World} (h : KpI n₀ B X Y) (k : KpI n₀ B Y Z) : KpI n₀ B X Z := ⟨h.1.trans k.1, fun b o h1 h2 => (k.2 b o h1 h2).trans (h.2 b o h1 h2)⟩

theorem kpI_alloc {n₀ B : Nat} {W : World} (h1 : n₀ ≤ W.heap.size) (h2 : B + 3 ≤ W.heap.size) (o : Obj) : KpI n₀ B W (W.alloc o) :=
  ⟨(Below.refl _ _).alloc h1 o, fun b x _ hb => ((Below.refl _ W).alloc (Nat.le_refl _) o).cell (p := ⟨b, x, none⟩) (by show b < W.heap.size; omega)⟩

theorem kpI_put {n₀ B : Nat} {w : World} (hn : n₀ ≤ w.heap.size) (hB : B + 3 ≤ w.heap.size) (W : World) (l : Nat) (o o' : Obj) (hl : w.heap.size ≤ l) (h : W.heap[l]? = some o) (h1 : o.isCells = false) (h2 : o.isWalk = false) : KpI n₀ B W (W.putObj l o') :=
  ⟨belowK_b hn W l o o' hl h h1 h2, fun b x _ hb => (belowK_b (Nat.le_refl w.heap.size) W l o o' hl h h1 h2).cell (p := ⟨b, x, none⟩) (by show b < w.heap.size; omega)⟩

set_option maxHeartbeats 1000000 in
theorem ofTrace_in (F : Fence) (n : Nat) (hF : F.fn 51) (hro : F.round = none) (a : Option Addr) (len cap : Nat) (kd tr : Int) (w : World) :
    CallsIn F n Tryz.prog 51 #[.slice a len cap, .int .i64 kd, .int .i64 tr] w fun e w' => e = .returned (.func (.func 100) #[] #[.pointer (some ⟨w.heap.size, 0, none⟩), .pointer (some ⟨w.heap.size + 1, 0, none⟩), .pointer (some ⟨w.heap.size + 1 + 1, 0, none⟩)]) ∧ w' = ((w.alloc (.cells #[.slice a len cap] 26)).alloc (.cells #[.int .i64 kd] 2)).alloc (.cells #[.int .i64 tr] 2) := by
  refine callsIn_of_wp Tryz.func51 rfl hF ?_ hro
  simp only [Tryz.ntmps51, List.size_toArray, List.length_cons, List.length_nil, Nat.reduceAdd, Nat.reduceSub, Array.replicate_succ, Array.replicate_zero, List.push_toArray, List.append_toArray, List.nil_append, List.cons_append]
  gi_wp2
  go_ret
  exact ⟨rfl, rfl⟩

set_option maxRecDepth 100000 in
set_option maxHeartbeats 4000000 in
theorem ofTrace1_in (F : Fence) (n : Nat) (hF : F.fn 100) (hro : F.round = none) (hn : 1 ≤ n) (l B n₀ : Nat) (av : Option Addr) (len cap : Nat) (kd tr : Int) (us : List M1.Upd) (W0 : World) (hn0 : n₀ = W0.heap.size) (h1 : IsUpds W0 av len cap us) (J Jx : List M1.Upd → World → Prop) (bJ : Nat) (hAJ : AbidesFrom bJ J)
    (hY : ∀ pre x W, J pre W → pre.length < len → YieldAt F (n - 1) Tryz.prog l #[.agg #[.int .i64 x.dr, .int .i64 x.dn, .int .i64 x.sw, .int .i64 x.sc, .int .i64 x.sr, .int .i64 x.k, .int .i64 x.tr, .int .i64 x.id, .int .i64 x.pa, .string x.s, .int .i64 x.st, .int .i64 x.en, .int .i64 x.lv]] W fun e W' =>
      (e = .returned (.bool true) ∧ J (pre ++ [x]) W' ∧ KpI n₀ B W W') ∨ (e = .returned (.bool false) ∧ Jx (pre ++ [x]) W'))
    (W : World) (hB0 : Below n₀ W0 W) (hBs : B + 3 ≤ W.heap.size) (b0 : W.cell? ⟨B, 0, none⟩ = some (.slice av len cap)) (b1 : W.cell? ⟨B + 1, 0, none⟩ = some (.int .i64 kd)) (b2 : W.cell? ⟨B + 1 + 1, 0, none⟩ = some (.int .i64 tr)) (h0 : J [] W) :
    CallsIn F n Tryz.prog 100 #[.func (.yield l) #[] #[], .pointer (some ⟨B, 0, none⟩), .pointer (some ⟨B + 1, 0, none⟩), .pointer (some ⟨B + 1 + 1, 0, none⟩)] W fun e W' => (∃ v, e = .returned v) ∧
      ((∃ ys, ys = M1.ofT kd tr us len ∧ J ys W') ∨ (∃ pre, (∃ k, k ≤ len ∧ pre = M1.ofT kd tr us k) ∧ Jx pre W')) := by
  have hm1 := h1.hcap
  have hm2 := h1.hmost
  unfold maxLen at hm2
  subst hn0
  refine callsIn_of_wp Tryz.func100 rfl hF ?_ hro
  simp only [Tryz.ntmps100, List.size_toArray, List.length_cons, List.length_nil, Nat.reduceAdd, Nat.reduceSub, Array.replicate_succ, Array.replicate_zero, List.push_toArray, List.append_toArray, List.nil_append, List.cons_append]
  gi_wp2
  gi_loopw [9] (fun i wr => ∃ k : Nat, k ≤ len ∧ i = .int .i64 k ∧ J (M1.ofT kd tr us k) wr ∧ KpI W0.heap.size B W wr)
    (fun i _ => len - (intOf i).toNat)
  case atStart => exact ⟨0, Nat.zero_le _, rfl, h0, kpI_refl _ _ _⟩
  case round =>
    obtain ⟨k, hk, rfl, hJs, hnx⟩ := hrel
    by_cases hlt : k < len
    · have hB := hB0.trans hnx.1
      rcases (h1.below hB).hlies with h0 | ⟨b, off, rfl, hb, hc⟩
      · omega
      obtain ⟨c0, c1, c2, c3, c4, c5, c6, c7, c8, c9, c10, c11, c12⟩ := hc k hlt
      clear hc
      have hz : B + 3 ≤ wr.heap.size := by have := hnx.1.size; omega
      have x1 := (hnx.2 (B + 1) 0 (by omega) (by omega)).trans b1
      have x2 := (hnx.2 (B + 1 + 1) 0 (by omega) (by omega)).trans b2
      have i0 : (0 : Int) ≤ (k : Int) := by omega
      have i1 : (k : Int) < (len : Int) := by omega
      have n1 : ¬ B + 1 = wr.heap.size := by omega
      have n2 : ¬ B + 1 + 1 = wr.heap.size := by omega
      have hJa : J (M1.ofT kd tr us k) (wr.alloc (.cells #[.int .i64 (M1.up us k).dr, .int .i64 (M1.up us k).dn, .int .i64 (M1.up us k).sw, .int .i64 (M1.up us k).sc, .int .i64 (M1.up us k).sr, .int .i64 (M1.up us k).k, .int .i64 (M1.up us k).tr, .int .i64 (M1.up us k).id, .int .i64 (M1.up us k).pa, .string (M1.up us k).s, .int .i64 (M1.up us k).st, .int .i64 (M1.up us k).en, .int .i64 (M1.up us k).lv] 38)) := hAJ _ _ _ none hJs (World.grownBy_alloc wr _ none) (fun r e => by cases e)
      have hka : KpI W0.heap.size B wr (wr.alloc (.cells #[.int .i64 (M1.up us k).dr, .int .i64 (M1.up us k).dn, .int .i64 (M1.up us k).sw, .int .i64 (M1.up us k).sc, .int .i64 (M1.up us k).sr, .int .i64 (M1.up us k).k, .int .i64 (M1.up us k).tr, .int .i64 (M1.up us k).id, .int .i64 (M1.up us k).pa, .string (M1.up us k).s, .int .i64 (M1.up us k).st, .int .i64 (M1.up us k).en, .int .i64 (M1.up us k).lv] 38)) := kpI_alloc hB.size hz _
      have y1 := (hka.2 (B + 1) 0 (by omega) (by omega)).trans x1
      have y2 := (hka.2 (B + 1 + 1) 0 (by omega) (by omega)).trans x2
      by_cases hq : (M1.up us k).k = kd ∧ (M1.up us k).tr = tr
      · have q1 : ((M1.up us k).k == kd) = true := by simp [hq.1]
        have q2 : ((M1.up us k).tr == tr) = true := by simp [hq.2]
        have HT := M1.ofT_yes hq
        clear hq
        obtain ⟨fn, tmps, assign, body, hy, hR⟩ := hY _ (M1.up us k) _ hJa (by have := M1.ofT_len kd tr us k; omega)
        gi_wp2
        refine hR.mono ?_
        rintro e W3 (⟨rfl, hJ3, hk3⟩ | ⟨rfl, hJx3⟩)
        · gi_wp2
          go_roundw
          case rel => exact ⟨k + 1, by omega, by simp, by rw [HT]; exact hJ3, kpI_t hnx (kpI_t hka hk3)⟩
          case measure => simp [intOf]; omega
        · gi_wp2
          refine bodyPost_ret (results_none rfl _ _ _) rfl ?_
          exact ⟨⟨_, rfl⟩, .inr ⟨_, ⟨k + 1, by omega, HT.symm⟩, hJx3⟩⟩
      · have HT := M1.ofT_no hq
        by_cases hq1 : (M1.up us k).k = kd
        · have q1 : ((M1.up us k).k == kd) = true := by simp [hq1]
          have q2 : ((M1.up us k).tr == tr) = false := by simp; exact fun e => hq ⟨hq1, e⟩
          clear hq hq1
          gi_wp2
          refine ⟨fun _ h => (by cases h), ?_⟩
          gi_wp2
          go_roundw
          case rel => exact ⟨k + 1, by omega, by simp, by rw [HT]; exact hJa, kpI_t hnx hka⟩
          case measure => simp [intOf]; omega
        · have q1 : ((M1.up us k).k == kd) = false := by simp [hq1]
          clear hq hq1
          gi_wp2
          refine ⟨fun _ h => (by cases h), ?_⟩
          gi_wp2
          go_roundw
          case rel => exact ⟨k + 1, by omega, by simp, by rw [HT]; exact hJa, kpI_t hnx hka⟩
          case measure => simp [intOf]; omega
    · obtain rfl : k = len := by omega
      gi_wp2
      go_end0
      exact ⟨⟨_, rfl⟩, .inl ⟨_, rfl, hJs⟩⟩

end Go.Proofs.YtccendmoeelniaaGreatDoor
