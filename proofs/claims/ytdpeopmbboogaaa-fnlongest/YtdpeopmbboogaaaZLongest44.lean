/-
  Texts of one proof, joined: Fi4, Fi5.
-/
import Derived.Test.YtdpeopmbboogaaaZLongest43
import Derived.Test.YtdpeopmbboogaaaZLongest39
namespace Go.Proofs.Ytdpeopmbboogaaa
open Go.ChangeShapes Go.WideShapes Go.ChangeAt Go.RowKit Go.Sort Go.Shelf Go.Lib
set_option linter.unusedSimpArgs false
set_option linter.unusedVariables false

theorem spansByStart_any (av : Option Addr) (m c B : Nat) (S : List M1.Upd) (w : World) (h : SpIn w av m c B S) (hS : S.Pairwise M1.idlt) (hm60 : m ≤ 1000) :
    Calls Try.prog 30 #[.slice av m c] w fun e w' => (∃ (a : Option Addr) (c2 : Nat), e = .returned (.slice a m c2) ∧ MG w' a m c2 w.heap.size w'.heap.size (scell (M1.bySt S))) ∧ Below w.heap.size w w' := by
  have hl : Hid (S.length = m) := h.len
  go_enter Try.func30, Try.ntmps30
  go_wp2_with fail
  refine (cloneSp_any av m c B S _ h hm60).mono ?_
  rintro e w1 ⟨⟨a, c2, rfl, mg⟩, hB1⟩
  obtain ⟨hc2, hc3, hlie⟩ := mg
  have hs1 := hB1.size
  by_cases hm0 : m = 0
  · subst hm0
    have hSn : S = [] := List.eq_nil_of_length_eq_zero hl.out
    subst hSn
    go_wp2_with fail
    refine (sortS_none _ _ _ _).mono ?_
    rintro e w2 ⟨rfl, rfl⟩
    go_wp2_with fail
    go_ret
    exact ⟨⟨_, _, rfl, hc2, hc3, hlie.imp (fun h => ⟨rfl, h.2⟩) id⟩, hB1⟩
  · rcases hlie with ⟨h0, _⟩ | ⟨g, rfl, hg1, hg2, r1⟩
    · exact absurd h0 hm0
    have hlo := hl.out
    subst hlo
    go_wp2_with fail
    refine (sortT_any g _ S _ r1 (by omega)).mono ?_
    rintro e w2 ⟨rfl, ns, hp, hso, row2, hG2⟩
    have HN : Hid (ns = M1.bySt S) := M1.bySt_is hS hp hso
    have hB2 : Below w.heap.size w w2 := hB1.trans (gr_to hG2 hs1 hg1)
    have hl2 := row2.lt
    go_wp2_with fail
    go_ret
    exact ⟨⟨_, _, rfl, hc2, hc3, Or.inr ⟨g, rfl, hg1, hl2, by rw [← HN.out]; exact row2⟩⟩, hB2⟩
end Go.Proofs.Ytdpeopmbboogaaa

namespace M1
/-- Of the first k spans those under p. -/
def kTo (p : Int) (us : List Upd) (k : Nat) : List Upd := (us.take k).filter fun x => decide (x.pa = p)
theorem kTo_len (p : Int) (us : List Upd) (k : Nat) : (kTo p us k).length ≤ k := by
  unfold kTo
  have h1 := List.length_filter_le (fun x : Upd => decide (x.pa = p)) (us.take k)
  have h2 : (us.take k).length ≤ k := by rw [List.length_take]; omega
  omega
theorem kTo_up {us : List Upd} {k : Nat} (hk : k < us.length) : us.take (k + 1) = us.take k ++ [up us k] := by
  rw [List.take_succ_eq_append_getElem hk]
  simp [up, List.getD, hk]
theorem kTo_yes {p : Int} {us : List Upd} {k : Nat} (hk : k < us.length) (h : (up us k).pa = p) : kTo p us (k + 1) = kTo p us k ++ [up us k] := by
  unfold kTo
  rw [kTo_up hk, List.filter_append]
  simp [h]
theorem kTo_no {p : Int} {us : List Upd} {k : Nat} (hk : k < us.length) (h : ¬ (up us k).pa = p) : kTo p us (k + 1) = kTo p us k := by
  unfold kTo
  rw [kTo_up hk, List.filter_append]
  simp [h]
theorem kTo_all (s : Upd) (S : List Upd) (n : Nat) (hn : (bySt S).length = n) : kTo s.id (bySt S) n = kids S s := by
  unfold kTo kids
  rw [← hn, List.take_length]
end M1
namespace Go.Proofs.Ytdpeopmbboogaaa
open Go.ChangeShapes Go.WideShapes Go.ChangeAt Go.RowKit Go.Shelf
set_option linter.unusedSimpArgs false
attribute [local go_sem] Oper.semAt_some

set_option maxHeartbeats 1000000 in
theorem kidsOf_in (F : Fence) (n : Nat) (hF : F.fn 32) (hro : F.round = none) (a : Option Addr) (len cap : Nat) (p : Int) (w : World) :
    CallsIn F n Try.prog 32 #[.slice a len cap, .int .i64 p] w fun e w' => e = .returned (.func (.func 58) #[] #[.pointer (some ⟨w.heap.size, 0, none⟩), .pointer (some ⟨w.heap.size + 1, 0, none⟩)]) ∧ w' = (w.alloc (.cells #[.slice a len cap] 31)).alloc (.cells #[.int .i64 p] 2) := by
  refine callsIn_of_wp Try.func32 rfl hF ?_ hro
  simp only [Try.ntmps32, List.size_toArray, List.length_cons, List.length_nil, Nat.reduceAdd, Nat.reduceSub, Array.replicate_succ, Array.replicate_zero, List.push_toArray, List.append_toArray, List.nil_append, List.cons_append]
  gi_wp2
  go_ret
  exact ⟨rfl, rfl⟩
set_option maxRecDepth 100000 in
set_option maxHeartbeats 4000000 in
theorem kidsOf1_in (F : Fence) (n : Nat) (hF : F.fn 58) (hro : F.round = none) (hn : 1 ≤ n) (l B Bd : Nat) (av : Option Addr) (len cap : Nat) (p : Int) (us : List M1.Upd) (J Jx : List M1.Upd → World → Prop) (bJ : Nat) (hAJ : AbidesFrom bJ J)
    (hJ : ∀ pre W, J pre W → SpIn W av len cap Bd us ∧ B + 2 ≤ W.heap.size ∧ W.cell? ⟨B, 0, none⟩ = some (.slice av len cap) ∧ W.cell? ⟨B + 1, 0, none⟩ = some (.int .i64 p))
    (hY : ∀ k W, k < len → (M1.up us k).pa = p → J (M1.kTo p us k) W → YieldAt F (n - 1) Try.prog l #[.agg #[.int .i64 (M1.up us k).id, .int .i64 (M1.up us k).pa, .string (M1.up us k).s, .int .i64 (M1.up us k).st, .int .i64 (M1.up us k).en]] W fun e W' =>
      (e = .returned (.bool true) ∧ J (M1.kTo p us (k + 1)) W') ∨ (e = .returned (.bool false) ∧ Jx (M1.kTo p us (k + 1)) W'))
    (W : World) (h0 : J [] W) :
    CallsIn F n Try.prog 58 #[.func (.yield l) #[] #[], .pointer (some ⟨B, 0, none⟩), .pointer (some ⟨B + 1, 0, none⟩)] W fun e W' => (∃ v, e = .returned v) ∧
      (J (M1.kTo p us len) W' ∨ (∃ k, k ≤ len ∧ Jx (M1.kTo p us k) W')) := by
  obtain ⟨h1, hBs, b0, b1⟩ := hJ _ _ h0
  have hl : Hid (us.length = len) := h1.len
  have hm1 := h1.cap
  have hm2 := h1.most
  unfold maxLen at hm2
  clear h1
  refine callsIn_of_wp Try.func58 rfl hF ?_ hro
  simp only [Try.ntmps58, List.size_toArray, List.length_cons, List.length_nil, Nat.reduceAdd, Nat.reduceSub, Array.replicate_succ, Array.replicate_zero, List.push_toArray, List.append_toArray, List.nil_append, List.cons_append]
  gi_wp2
  gi_loopw [8] (fun i wr => ∃ k : Nat, k ≤ len ∧ i = .int .i64 k ∧ J (M1.kTo p us k) wr)
    (fun i _ => len - (intOf i).toNat)
  case atStart => exact ⟨0, Nat.zero_le _, rfl, h0⟩
  case round =>
    clear h0 b0 b1 hBs
    obtain ⟨k, hk, rfl, hJs⟩ := hrel
    by_cases hlt : k < len
    · obtain ⟨h2, hz, _, x1⟩ := hJ _ _ hJs
      rcases h2.lies with h0 | ⟨g, rfl, hgB, r1⟩
      · omega
      have hgl := r1.lt
      have hks : k < us.length := by rw [hl.out]; exact hlt
      have z0 : scell us (k * 5) = .int .i64 (M1.up us k).id := scell_at us k 0 (by omega)
      have z1 : scell us (k * 5 + 1) = .int .i64 (M1.up us k).pa := scell_at us k 1 (by omega)
      have z2 : scell us (k * 5 + 2) = .string (M1.up us k).s := scell_at us k 2 (by omega)
      have z3 : scell us (k * 5 + 3) = .int .i64 (M1.up us k).st := scell_at us k 3 (by omega)
      have z4 : scell us (k * 5 + 4) = .int .i64 (M1.up us k).en := scell_at us k 4 (by omega)
      have d0 := r1.cell (o := k * 5) (by omega)
      have d1 := r1.cell (o := k * 5 + 1) (by omega)
      have d2 := r1.cell (o := k * 5 + 2) (by omega)
      have d3 := r1.cell (o := k * 5 + 3) (by omega)
      have d4 := r1.cell (o := k * 5 + 4) (by omega)
      rw [z0] at d0
      rw [z1] at d1
      rw [z2] at d2
      rw [z3] at d3
      rw [z4] at d4
      clear z0 z1 z2 z3 z4
      have i0 : (0 : Int) ≤ (k : Int) := by omega
      have i1 : (k : Int) < (len : Int) := by omega
      have n1 : ¬ B + 1 = wr.heap.size := by omega
      have hJa : J (M1.kTo p us k) (wr.alloc (.cells #[.int .i64 (M1.up us k).id, .int .i64 (M1.up us k).pa, .string (M1.up us k).s, .int .i64 (M1.up us k).st, .int .i64 (M1.up us k).en] 34)) := hAJ _ _ _ none hJs (World.grownBy_alloc wr _ none) (fun r e => by cases e)
      have y1 := (hJ _ _ hJa).2.2.2
      by_cases hq : (M1.up us k).pa = p
      · have q1 : ((M1.up us k).pa == p) = true := by simp [hq]
        obtain ⟨fn, tmps, assign, body, hy, hR⟩ := hY k _ hlt hq hJa
        clear hq
        gi_wp2
        refine hR.mono ?_
        rintro e W3 (⟨rfl, hJ3⟩ | ⟨rfl, hJx3⟩)
        · gi_wp2
          go_roundw
          case rel => exact ⟨k + 1, by omega, by simp, hJ3⟩
          case measure => simp [intOf]; omega
        · gi_wp2
          refine bodyPost_ret (results_none rfl _ _ _) rfl ?_
          exact ⟨⟨_, rfl⟩, .inr ⟨k + 1, by omega, hJx3⟩⟩
      · have HT := M1.kTo_no hks hq
        have q1 : ((M1.up us k).pa == p) = false := by simp [hq]
        clear hq
        gi_wp2
        refine ⟨fun _ h => (by cases h), ?_⟩
        gi_wp2
        go_roundw
        case rel => exact ⟨k + 1, by omega, by simp, by rw [HT]; exact hJa⟩
        case measure => simp [intOf]; omega
    · obtain rfl : k = len := by omega
      gi_wp2
      go_end0
      exact ⟨⟨_, rfl⟩, .inl hJs⟩
end Go.Proofs.Ytdpeopmbboogaaa
