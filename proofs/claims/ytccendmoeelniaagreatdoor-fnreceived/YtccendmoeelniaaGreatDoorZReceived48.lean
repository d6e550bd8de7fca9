/-
  Texts of one proof, joined: Math37, SameS.
-/
import Derived.Test.YtccendmoeelniaaGreatDoorZReceived16
import Derived.Test.YtccendmoeelniaaGreatDoorZReceived13
import Derived.Test.YtccendmoeelniaaGreatDoorZReceived04
import Derived.Test.YtccendmoeelniaaGreatDoorZReceived01
import Derived.Test.YtccendmoeelniaaGreatDoorZReceived02
namespace M1
def le2 (a b x y : Int) : Prop := a < x ∨ (x = a ∧ b ≤ y)

theorem le2.trans {a b c d e f : Int} (h : le2 a b c d) (k : le2 c d e f) : le2 a b e f := by
  unfold le2 at *; omega

theorem next_all {a b c now : Int} (h : stOk a b c = true) (hn : inB now 0 1000000000 = true) (hk : (nextP a b c now).ok = true) : stOk (nextP a b c now).a (nextP a b c now).b (nextP a b c now).c = true ∧ (nextP a b c now).c = c ∧ le2 a b (nextP a b c now).a (nextP a b c now).b := by
  have := next_props h hn hk
  exact ⟨this.2.2.2.1, this.2.2.1, by have := this.2.2.2.2; unfold le2; omega⟩

theorem met_all {a b c x y z now : Int} (hk : (metP a b c x y z now).ok = true) : stOk (metP a b c x y z now).a (metP a b c x y z now).b (metP a b c x y z now).c = true ∧ (metP a b c x y z now).c = c ∧ le2 a b (metP a b c x y z now).a (metP a b c x y z now).b ∧ le2 x y (metP a b c x y z now).a (metP a b c x y z now).b := by
  unfold metP at hk ⊢
  by_cases q : stOk a b c = true ∧ stOk x y z = true ∧ inB now 0 1000000000 = true
  · rw [if_pos q] at hk ⊢
    cases ho : overB a b x y with
    | true =>
      rw [ho] at hk
      simp only [if_true] at hk ⊢
      have h1 := stOk_true q.1
      have h2 := stOk_true q.2.1
      have hs : stOk x y c = true := stOk_mk (by omega)
      have := next_all hs q.2.2 hk
      refine ⟨this.1, this.2.1, le2.trans ?_ this.2.2, this.2.2⟩
      simp [overB] at ho
      unfold le2; omega
    | false =>
      rw [ho] at hk
      simp only [Bool.false_eq_true, if_false] at hk ⊢
      have := next_all q.1 q.2.2 hk
      refine ⟨this.1, this.2.1, this.2.2, le2.trans ?_ this.2.2⟩
      simp [overB] at ho
      unfold le2; omega
  · rw [if_neg q] at hk; cases hk

theorem mt_all {a b c now : Int} {us : List Upd} (hs : stOk a b c = true) : ∀ k, (mtTo a b c now us k).ok = true → stOk (mtTo a b c now us k).a (mtTo a b c now us k).b (mtTo a b c now us k).c = true ∧ (mtTo a b c now us k).c = c ∧ le2 a b (mtTo a b c now us k).a (mtTo a b c now us k).b ∧ ∀ i, i < k → le2 (up us i).sw (up us i).sc (mtTo a b c now us k).a (mtTo a b c now us k).b
  | 0, _ => ⟨hs, rfl, by unfold le2; exact .inr ⟨rfl, Int.le_refl _⟩, fun i hi => absurd hi (Nat.not_lt_zero _)⟩
  | k + 1, h => by
    cases q : (mtTo a b c now us k).ok with
    | false => rw [mt_fail q (Nat.le_succ k)] at h; cases h
    | true =>
      have ih := mt_all hs k q
      rw [mt_step q] at h ⊢
      have m := met_all h
      refine ⟨m.1, m.2.1.trans ih.2.1, ih.2.2.1.trans m.2.2.1, fun i hi => ?_⟩
      by_cases e : i = k
      · rw [e]; exact m.2.2.2
      · exact (ih.2.2.2 i (by omega)).trans m.2.2.1

theorem le2_later {a b x y : Int} (h : le2 a b x y) : laterB a b x y = false := by
  unfold le2 at h; simp [laterB]; omega

theorem later_le2 {a b x y : Int} (h : laterB a b x y = false) : le2 a b x y := by
  simp [laterB] at h; unfold le2; omega

theorem rc_ok {r : Rg} {ys : List Upd} {now : Int} (h : rOk r = true) (h3 : tOk r.us ys = true) (h4 : (mt r ys now).ok = true) : rOk (rcN r ys now) = true := by
  obtain ⟨hid, hst, hc, hs, hl⟩ := rOk_all h
  have m := mt_all (now := now) (us := ys) hst ys.length h4
  obtain ⟨_, _, t3, _, t5⟩ := tOk_true h3
  show regOk r.id (mtTo r.a r.b r.c now ys ys.length).a (mtTo r.a r.b r.c now ys ys.length).b (mtTo r.a r.b r.c now ys ys.length).c (tL r.us ys) = true
  rw [regOk_5 hid m.1 (m.2.1.trans hc) t3]
  refine noneLater_yes fun j hj => ?_
  rcases t5 _ (up_mem hj) with q | q
  · obtain ⟨i, hi, ei⟩ := mem_up q
    rw [← ei]
    exact le2_later ((later_le2 (noneLater_all hl i hi)).trans m.2.2.1)
  · obtain ⟨i, hi, ei⟩ := mem_up q
    rw [← ei]
    exact le2_later (m.2.2.2 i hi)

end M1

namespace M1
theorem ueq_self (u : Upd) : ueq u u = true := by simp [ueq]

end M1
namespace Go.Proofs.YtccendmoeelniaaGreatDoor
open Go.ChangeShapes Go.WideShapes Go.ChangeAt Go.RowKit
set_option linter.unusedSimpArgs false
set_option linter.unusedVariables false
theorem big_any (av : Option Addr) (len cap : Nat) (w : World) (hc : len ≤ cap) (hm : cap ≤ maxLen) :
    Calls Tryz.prog 8 #[.slice av len cap] w fun e w' => e = .returned (.bool (decide ((1048576 : Int) < (len : Int)))) ∧ w' = w := by
  unfold maxLen at hm
  go_enter Tryz.func8, Tryz.ntmps8
  go_wp2
  go_ret
  exact ⟨rfl, rfl⟩

attribute [local go_sem high] eqU
set_option maxHeartbeats 4000000 in
theorem sameSet_self (av bv : Option Addr) (n cn cm : Nat) (us : List M1.Upd) (w : World) (h1 : IsUpds w av n cn us) (h2 : IsUpds w bv n cm us) :
    Calls Tryz.prog 23 #[.slice av n cn, .slice bv n cm] w fun e w' => e = .returned (.bool true) ∧ Below w.heap.size w w' := by
  have hm1 := h1.hcap
  have hm2 := h1.hmost
  have hm3 := h2.hcap
  have hm4 := h2.hmost
  unfold maxLen at hm2 hm4
  have hnb : ((n : Int) != (n : Int)) = false := by simp
  go_enter Tryz.func23, Tryz.ntmps23
  go_wp2_with fail
  go_loopw [5] (fun i wr => ∃ k : Nat, k ≤ n ∧ i = .int .i64 k ∧ Below w.heap.size w wr) (fun i _ => n - (intOf i).toNat)
  case atStart => exact ⟨0, Nat.zero_le _, rfl, Below.refl _ _⟩
  case round =>
    obtain ⟨k, hk, rfl, hB⟩ := hrel
    by_cases hlt : k < n
    · have g1 := h1.below hB
      have g2 := h2.below hB
      rcases g1.hlies with h0 | ⟨b, off, rfl, hb, hc⟩
      · omega
      rcases g2.hlies with h0 | ⟨b2, off2, rfl, hb2, hc2⟩
      · omega
      obtain ⟨c0, c1, c2, c3, c4, c5, c6, c7, c8, c9, c10, c11, c12⟩ := hc k hlt
      obtain ⟨d0, d1, d2, d3, d4, d5, d6, d7, d8, d9, d10, d11, d12⟩ := hc2 k hlt
      clear hc hc2 g1 g2
      have i0 : (0 : Int) ≤ (k : Int) := by omega
      have i1 : (k : Int) < (n : Int) := by omega
      have hq := M1.ueq_self (M1.up us k)
      go_wp2_with fail
      go_region_held3 (fun w' => Kp wr w') (first | exact kp_zero _ | exact kp_drew (by assumption) | exact kp_step (by assumption) (by assumption)) (fail)
      rename_i hK
      have hB' := hB.trans (hK.1.mono hB.size)
      go_wp2_with fail
      exact ⟨⟨k + 1, by omega, by go_num, hB'⟩, by simp [intOf]; omega⟩
    · go_wp2_with fail
      go_ret
      exact ⟨rfl, hB⟩

theorem sameRegion_self (id a b c : Int) (av bv : Option Addr) (n cn cm : Nat) (us : List M1.Upd) (w : World) (h1 : IsUpds w av n cn us) (h2 : IsUpds w bv n cm us) :
    Calls Tryz.prog 12 #[.agg #[.int .i64 id, .int .i64 a, .int .i64 b, .int .i64 c, .slice av n cn], .agg #[.int .i64 id, .int .i64 a, .int .i64 b, .int .i64 c, .slice bv n cm]] w fun e w' => e = .returned (.bool true) ∧ Below w.heap.size w w' := by
  go_enter Tryz.func12, Tryz.ntmps12
  go_wp2_with fail
  refine (sameSet_self _ _ _ _ _ _ _ (h1.below (?_ : Below w.heap.size w _)) (h2.below (?_ : Below w.heap.size w _))).mono ?_
  · repeat (first | (with_reducible exact Below.refl _ _) | ((with_reducible refine Below.setCell ?_ ?_ _); rotate_left; (focus (first | omega | (simp; done) | (simp; omega)))) | ((with_reducible refine Below.alloc ?_ ?_ _); rotate_left; (focus (first | omega | (simp; done) | (simp; omega)))) | (with_reducible refine Below.drew ?_))
  · repeat (first | (with_reducible exact Below.refl _ _) | ((with_reducible refine Below.setCell ?_ ?_ _); rotate_left; (focus (first | omega | (simp; done) | (simp; omega)))) | ((with_reducible refine Below.alloc ?_ ?_ _); rotate_left; (focus (first | omega | (simp; done) | (simp; omega)))) | (with_reducible refine Below.drew ?_))
  rintro e w1 ⟨rfl, hb1⟩
  go_wp2_with fail
  go_ret
  refine ⟨rfl, ?_⟩
  repeat (first | (with_reducible exact Below.refl _ _) | ((with_reducible refine Below.setCell ?_ ?_ _); rotate_left; (focus (first | omega | (simp; done) | (simp; omega)))) | ((with_reducible refine Below.alloc ?_ ?_ _); rotate_left; (focus (first | omega | (simp; done) | (simp; omega)))) | (with_reducible refine Below.drew ?_) | ((with_reducible refine Below.trans ?_ (Below.mono hb1 ?_)); rotate_left; (focus (first | omega | (simp; done) | (simp; omega)))))

end Go.Proofs.YtccendmoeelniaaGreatDoor
