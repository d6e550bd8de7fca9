/-
  Texts of one proof, joined: TkT, AppU.
-/
import Derived.Test.YtnoinkmpkklikaaZTaken50
import Derived.Test.YtnoinkmpkklikaaZTaken10
import Derived.Test.YtnoinkmpkklikaaZTaken23
namespace Go.Proofs.Ytnoinkmpkklikaa
open Go.ChangeShapes Go.WideShapes Go.ChangeAt Go.RowKit
set_option linter.unusedSimpArgs false
set_option linter.unusedVariables false

set_option maxHeartbeats 8000000 in
set_option maxRecDepth 100000 in
theorem taken_spec (av bv : Option Addr) (n cn m cm : Nat) (xs ys : List M1.Upd) (w : World) (h1 : IsUpds w av n cn xs) (h2 : IsUpds w bv m cm ys) :
    Calls Try.prog 20 #[.slice av n cn, .slice bv m cm] w fun e w' => Jd w w' e (M1.tL xs ys) (M1.tOk xs ys) ∧ Below w.heap.size w w' := by
  have hl2 : Hid (ys.length = m) := h2.hlen
  have hm3 := h2.hcap
  have hm4 := h2.hmost
  unfold maxLen at hm4
  by_cases hs1 : M1.setOk xs = true
  · by_cases hm60 : m ≤ 60
    · have hgt : decide ((60 : Int) < (m : Int)) = false := decide_eq_false (by omega)
      have hgt2 : decide (60 < m) = false := decide_eq_false (by omega)
      have HS : Hid (M1.setOk xs = true) := hs1
      have h60 : Hid (ys.length ≤ 60) := (by have := hl2.out; omega : ys.length ≤ 60)
      go_enter Try.func20, Try.ntmps20
      go_wp2_with fail
      refine (setOk_spec _ _ _ _ _ h1).mono ?_
      rw [hs1]
      rintro e w1 ⟨rfl, hb1⟩
      clear hs1
      go_wp2_with fail
      go_loopw [6] (fun i wr => ∃ k : Nat, k ≤ m ∧ i = .int .i64 k ∧ Below w.heap.size w wr ∧ Hid (∀ j, j < k → M1.okU (M1.up ys j) = true)) (fun i _ => m - (intOf i).toNat)
      case atStart => exact ⟨0, Nat.zero_le _, rfl, hb1, fun j hj => absurd hj (Nat.not_lt_zero _)⟩
      case round =>
        clear hb1
        obtain ⟨k, hk, rfl, hB, hall⟩ := hrel
        by_cases hlt : k < m
        · have g1 := h2.below hB
          rcases g1.hlies with h0 | ⟨b, off, rfl, hb, hc⟩
          · omega
          obtain ⟨c0, c1, c2, c3, c4, c5, c6, c7, c8, c9, c10, c11, c12⟩ := hc k hlt
          have hs := h2.htxt k hlt
          have i0 : (0 : Int) ≤ (k : Int) := by omega
          have i1 : (k : Int) < (m : Int) := by omega
          clear hc g1
          by_cases hu : M1.okU (M1.up ys k) = true
          · have hok : M1.updB (M1.up ys k).dr (M1.up ys k).dn (M1.up ys k).sw (M1.up ys k).sc (M1.up ys k).sr (M1.up ys k).k (M1.up ys k).tr (M1.up ys k).id (M1.up ys k).pa (M1.up ys k).s (M1.up ys k).st (M1.up ys k).en (M1.up ys k).lv = true := hu
            have HQ : Hid (∀ j, j < k + 1 → M1.okU (M1.up ys j) = true) := fun j hj => by
              by_cases e : j = k
              · rw [e]; exact hu
              · exact hall.out j (by omega)
            clear hall hu
            go_wp2_with fail
            refine (updateOk_spec _ _ _ _ _ _ _ _ _ _ _ _ _ _ hs).mono ?_
            rw [hok]
            rintro e w2 ⟨rfl, hb2⟩
            have hB1 : Below w.heap.size w w2 := hB.trans (hb2.mono hB.size)
            go_wp2_with fail
            exact ⟨⟨k + 1, by omega, by go_num, hB1, HQ⟩, by simp [intOf]; omega⟩
          · replace hu : M1.okU (M1.up ys k) = false := by simpa using hu
            have hok : M1.updB (M1.up ys k).dr (M1.up ys k).dn (M1.up ys k).sw (M1.up ys k).sc (M1.up ys k).sr (M1.up ys k).k (M1.up ys k).tr (M1.up ys k).id (M1.up ys k).pa (M1.up ys k).s (M1.up ys k).st (M1.up ys k).en (M1.up ys k).lv = false := hu
            have HQ : Hid (M1.tpre xs ys = false) := (by simp [M1.tpre, M1.allR_no (j := k) (by rw [hl2.out]; exact hlt) hu] : M1.tpre xs ys = false)
            clear hall hu
            go_wp2_with fail
            refine (updateOk_spec _ _ _ _ _ _ _ _ _ _ _ _ _ _ hs).mono ?_
            rw [hok]
            rintro e w2 ⟨rfl, hb2⟩
            have hB1 : Below w.heap.size w w2 := hB.trans (hb2.mono hB.size)
            go_wp2_with fail
            have q := M1.t_no HQ.out
            refine bodyPost_ret (v := .tuple #[.slice none 0 0, .bool false]) (by simp [results, Try.results20, go_sem]) rfl ⟨?_, hB1⟩
            rw [q.1, q.2]
            exact jd_nil _ _
        · have HP : Hid (M1.tpre xs ys = true) := (by simp [M1.tpre, HS.out, h60.out, M1.allR_yes (ys := ys) fun j hj => hall.out j (by have := hl2.out; omega)] : M1.tpre xs ys = true)
          clear hall
          go_wp2_with fail
          refine (l3Taken_any _ _ _ _ _ _ _ _ _ (h1.below hB) (h2.below hB) HP).mono ?_
          obtain ⟨okb, hok⟩ : ∃ q, Hid (M1.setOk (M1.tO xs ys) = q) := ⟨_, rfl⟩
          rw [hok.out]
          rintro e w4 ⟨⟨a, c, rfl, mu4⟩, hb4⟩
          have hB4 := hB.trans (hb4.mono hB.size)
          have hsz := hB.size
          cases okb with
          | true =>
            have q := M1.t_yes HP.out hok.out
            have Q1 : Hid (M1.tOk xs ys = true) := q.1
            have Q2 : Hid (M1.tL xs ys = M1.tO xs ys) := q.2
            clear q
            go_wp2_with fail
            refine bodyPost_ret (v := .tuple #[.slice a (M1.tO xs ys).length c, .bool true]) (by simp [results, Try.results20, go_sem]) rfl ⟨?_, hB4⟩
            rw [Q1.out, Q2.out]
            exact ⟨a, c, rfl, mu4.widen hsz (Nat.le_refl _)⟩
          | false =>
            have q := M1.t_not hok.out
            have Q1 : Hid (M1.tOk xs ys = false) := q.1
            have Q2 : Hid (M1.tL xs ys = []) := q.2
            clear q
            go_wp2_with fail
            refine bodyPost_ret (v := .tuple #[.slice none 0 0, .bool false]) (by simp [results, Try.results20, go_sem]) rfl ⟨?_, hB4⟩
            rw [Q1.out, Q2.out]
            exact jd_nil _ _
    · have hgt : decide ((60 : Int) < (m : Int)) = true := decide_eq_true (by omega)
      have hgt2 : decide (60 < m) = true := decide_eq_true (by omega)
      have hp : M1.tpre xs ys = false := by
        have : ¬ ys.length ≤ 60 := by have := hl2.out; omega
        simp [M1.tpre, this]
      have q := M1.t_no hp
      rw [q.1, q.2]
      go_enter Try.func20, Try.ntmps20
      go_wp2_with fail
      refine (setOk_spec _ _ _ _ _ h1).mono ?_
      rw [hs1]
      rintro e w1 ⟨rfl, hb1⟩
      go_wp2_with fail
      exact bodyPost_ret (v := .tuple #[.slice none 0 0, .bool false]) (by simp [results, Try.results20, go_sem]) rfl ⟨jd_nil _ _, hb1⟩
  · replace hs1 : M1.setOk xs = false := by simpa using hs1
    have hp : M1.tpre xs ys = false := by simp [M1.tpre, hs1]
    have q := M1.t_no hp
    rw [q.1, q.2]
    go_enter Try.func20, Try.ntmps20
    go_wp2_with fail
    refine (setOk_spec _ _ _ _ _ h1).mono ?_
    rw [hs1]
    rintro e w1 ⟨rfl, hb1⟩
    go_wp2_with fail
    exact bodyPost_ret (v := .tuple #[.slice none 0 0, .bool false]) (by simp [results, Try.results20, go_sem]) rfl ⟨jd_nil _ _, hb1⟩
end Go.Proofs.Ytnoinkmpkklikaa

namespace Go.Proofs.Ytnoinkmpkklikaa
open Go.ChangeShapes Go.WideShapes Go.ChangeAt Go.RowKit
set_option linter.unusedSimpArgs false
set_option linter.unusedVariables false

theorem wpList_appU {w : World} {ops : Array Oper} {rest : List Oper} {o : Oper} {a : Act} {Q : Exit → Act → World → Prop} (hw : Region.wanted o (yielded ops a.tmps) = true) (s x : Operand)
    (ho : o.op = .call { callee := .builtin .append, args := #[s, x], argTypes := #[24, 24] })
    (base : Nat) (xv : Option Addr) (xc n : Nat) (ns : List M1.Upd) (hn : ns.length = n) (hs : a.eval s = .slice xv n xc) (hown : w.ownsRow base 51 13 (.slice xv n xc) n (ucL ns))
    (yv : Option Addr) (m yc : Nat) (ys : List M1.Upd) (hx : a.eval x = .slice yv m yc) (hy : IsUpds w yv m yc ys) (hlen : n + m ≤ 1000000) (hbase : base ≤ w.heap.size)
    (h : ∀ av cap w', w'.ownsRow base 51 13 (.slice av (n + m) cap) (n + m) (ucL (ns ++ ys)) → Below base w w' → wpList Try.prog ops Q rest (a.put o.dst (.slice av (n + m) cap)) w') : wpList Try.prog ops Q (o :: rest) a w := by
  obtain ⟨ti, hi1, hi2, hi3, hi4⟩ := infoUpd
  refine wpList_step fun K hK => ?_
  rw [if_pos hw]
  by_cases hm0 : m = 0
  · subst hm0
    have hys : ys = [] := List.eq_nil_of_length_eq_zero hy.hlen
    subst hys
    have hrun := run_append_zero (P := Try.prog) (w := w) base 24 o.type 51 ti 13 Try.underlying24 hi1 (.slice xv n xc) n (ucL ns) hown yv yc
    unfold Oper.wp
    simp [execOp, ho, resolve, invoke, builtin, hs, hx, hrun, Result.andThen]
    refine hK _ _ (h xv xc w ?_ (Below.refl _ _))
    simpa using hown
  · rcases hy.hlies with h0 | ⟨b, off, rfl, hb, hc⟩
    · exact absurd h0 hm0
    have hnews : ∀ j u, (ucL ys)[j]? = some u → w.cell? ((⟨b, off, none⟩ : Addr).add j) = some u := by
      have := ucL_take_cells (w := w) (b := b) (off := off) (n := m) (us := ys) hc hy.hlen 0 m (by omega)
      have e : (ys.drop 0).take m = ys := by rw [List.drop_zero, ← hy.hlen, List.take_length]
      rw [e] at this
      simpa using this
    refine wp_append_lies w s x 24 ho base 51 ti _ 13 112 Try.underlying24 hi1 hi2 hi3 hi4 rfl (by omega) (.slice xv n xc) n (ucL ns) hs hown ⟨b, off, none⟩ m yc (ucL ys) hx (by rw [ucL_len, hy.hlen]) hnews (ucL_one ys) (by omega) (by unfold maxLen; omega) (by omega) hbase _ rfl ?_
    intro g cap w' hown' hgrow hat hlt
    refine hK _ _ (h _ _ _ ?_ ?_)
    · rw [ucL_app]; exact hown'
    · exact (Below.refl base w).grown hgrow hbase (owns_base hown)
end Go.Proofs.Ytnoinkmpkklikaa
