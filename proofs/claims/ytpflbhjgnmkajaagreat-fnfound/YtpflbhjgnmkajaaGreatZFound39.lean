/-
  The contracts of the model's LevelOf, Visible, Kept, and of the program's Visible.
-/
import Derived.Test.YtpflbhjgnmkajaaGreatZFound38
import Derived.Test.YtpflbhjgnmkajaaGreatZFound15
namespace M1
theorem lvl_nonneg : ∀ xs : List Upd, 0 ≤ lvl xs := by
  intro xs
  unfold lvl
  have key : ∀ (xs : List Upd) (m : Int), 0 ≤ m → 0 ≤ xs.foldl (fun m u => max m u.lv) m := by
    intro xs
    induction xs with
    | nil => intro m h; exact h
    | cons u r ih => intro m h; exact ih _ (by show (0 : Int) ≤ max m u.lv; omega)
  exact key xs 0 (by omega)
def evenB (n : Int) : Bool := n % 2 == 0
def visB (us : List Upd) (tr : Int) : Bool := setOk us && evenB (lvl (ofT 3 tr us us.length))
def keptB (us : List Upd) (tr : Int) : Bool := setOk us && !(ofT 2 tr us us.length).isEmpty
theorem ofT_grow {kd tr : Int} {us : List Upd} {k : Nat} (h : ofT kd tr us k ≠ []) : ∀ m, ofT kd tr us (k + m) ≠ []
  | 0 => h
  | m + 1 => by
    have := ofT_grow h m
    show ofT kd tr us (k + m + 1) ≠ []
    by_cases hq : (up us (k + m)).k = kd ∧ (up us (k + m)).tr = tr
    · rw [ofT_yes hq]; simp
    · rw [ofT_no hq]; exact this
theorem ofT_some {kd tr : Int} {us : List Upd} {k n : Nat} (h : ofT kd tr us k ≠ []) (hk : k ≤ n) : ofT kd tr us n ≠ [] := by
  have := ofT_grow h (n - k)
  rwa [show k + (n - k) = n from by omega] at this
end M1
namespace Go.Proofs.YtpflbhjgnmkajaaGreat
open Go.ChangeShapes Go.WideShapes Go.ChangeAt Go.RowKit
set_option linter.unusedSimpArgs false

set_option maxHeartbeats 4000000 in
theorem l4Level_any (av : Option Addr) (n cn : Nat) (us : List M1.Upd) (tr : Int) (w : World) (h1 : IsUpds w av n cn us) :
    Calls Tryz.prog 48 #[.slice av n cn, .int .i64 tr] w fun e w' => e = .returned (.int .i64 (M1.lvl (M1.ofT 3 tr us n))) ∧ w' = w := by
  have hm1 := h1.hcap
  have hm2 := h1.hmost
  unfold maxLen at hm2
  go_enter Tryz.func48, Tryz.ntmps48
  go_wp2_with fail
  go_loopw [5, 6] (fun m i wr => ∃ k : Nat, k ≤ n ∧ i = .int .i64 k ∧ wr = w ∧ m = .int .i64 (M1.lvl (M1.ofT 3 tr us k))) (fun _ i _ => n - (intOf i).toNat)
  case atStart => exact ⟨0, Nat.zero_le _, rfl, rfl, rfl⟩
  case round =>
    obtain ⟨k, hk, rfl, rfl, rfl⟩ := hrel
    by_cases hlt : k < n
    · rcases h1.hlies with h0 | ⟨b, off, rfl, hb, hc⟩
      · omega
      obtain ⟨c0, c1, c2, c3, c4, c5, c6, c7, c8, c9, c10, c11, c12⟩ := hc k hlt
      clear hc
      have i0 : (0 : Int) ≤ (k : Int) := by omega
      have i1 : (k : Int) < (n : Int) := by omega
      by_cases hq : (M1.up us k).k = 3 ∧ (M1.up us k).tr = tr
      · have q1 : ((M1.up us k).k == 3) = true := by simp [hq.1]
        have q2 : ((M1.up us k).tr == tr) = true := by simp [hq.2]
        have HT : Hid (M1.ofT 3 tr us (k + 1) = M1.ofT 3 tr us k ++ [M1.up us k]) := M1.ofT_yes hq
        clear hq
        go_wp2_with fail
        all_goals (exact ⟨⟨k + 1, by omega, by go_num, by first | trivial | rfl, by rw [HT.out, M1.lvl_snoc]; congr 1; omega⟩, by simp [intOf]; omega⟩)
      · have HT : Hid (M1.ofT 3 tr us (k + 1) = M1.ofT 3 tr us k) := M1.ofT_no hq
        by_cases hq1 : (M1.up us k).k = 3
        · have q1 : ((M1.up us k).k == 3) = true := by simp [hq1]
          have q2 : ((M1.up us k).tr == tr) = false := by simp; exact fun e => hq ⟨hq1, e⟩
          clear hq hq1
          go_wp2_with fail
          exact ⟨⟨k + 1, by omega, by go_num, by first | trivial | rfl, by rw [HT.out]⟩, by simp [intOf]; omega⟩
        · have q1 : ((M1.up us k).k == 3) = false := by simp [hq1]
          clear hq hq1
          go_wp2_with fail
          exact ⟨⟨k + 1, by omega, by go_num, by first | trivial | rfl, by rw [HT.out]⟩, by simp [intOf]; omega⟩
    · obtain rfl : k = n := by omega
      go_wp2_with fail
      go_ret
      exact ⟨rfl, rfl⟩

theorem visible_spec (av : Option Addr) (n cn : Nat) (us : List M1.Upd) (tr : Int) (w : World) (h1 : IsUpds w av n cn us) :
    Calls Tryz.prog 24 #[.slice av n cn, .int .i64 tr] w fun e w' => e = .returned (.bool (M1.visB us tr)) ∧ Below w.heap.size w w' := by
  have hl1 : Hid (us.length = n) := h1.hlen
  by_cases hs : M1.setOk us = true
  · have HQ : Hid (M1.visB us tr = M1.evenB (M1.lvl (M1.ofT 3 tr us n))) := (by unfold M1.visB; rw [hs, hl1.out, Bool.true_and] : M1.visB us tr = M1.evenB (M1.lvl (M1.ofT 3 tr us n)))
    have hnn := M1.lvl_nonneg (M1.ofT 3 tr us n)
    go_enter Tryz.func24, Tryz.ntmps24
    go_wp2_with fail
    refine (setOk_spec _ _ _ _ _ h1).mono ?_
    rw [hs]
    rintro e w1 ⟨rfl, hb1⟩
    go_wp2_with fail
    refine (l4Level_any _ _ _ _ _ _ (h1.below hb1)).mono ?_
    rintro e w2 ⟨rfl, rfl⟩
    go_wp2_with fail
    go_ret
    exact ⟨by rw [HQ.out]; rfl, hb1⟩
  · replace hs : M1.setOk us = false := by simpa using hs
    have HQ : Hid (M1.visB us tr = false) := (by unfold M1.visB; rw [hs]; rfl : M1.visB us tr = false)
    go_enter Tryz.func24, Tryz.ntmps24
    go_wp2_with fail
    refine (setOk_spec _ _ _ _ _ h1).mono ?_
    rw [hs]
    rintro e w1 ⟨rfl, hb1⟩
    go_wp2_with fail
    go_ret
    exact ⟨by rw [HQ.out]; rfl, hb1⟩

theorem visible_impl (av : Option Addr) (n cn : Nat) (us : List M1.Upd) (tr : Int) (w : World) (h1 : IsUpds w av n cn us) :
    Calls Tryz.prog 13 #[.slice av n cn, .int .i64 tr] w fun e w' => e = .returned (.bool (M1.visB us tr)) ∧ Below w.heap.size w w' := by
  by_cases hs : M1.setOk us = true
  · have e1 : M1.levelOf us tr = M1.lvl (M1.ofT 3 tr us us.length) := by unfold M1.levelOf; rw [if_pos hs]
    have HQ : Hid (M1.visB us tr = M1.evenB (M1.lvl (M1.ofT 3 tr us us.length))) := (by unfold M1.visB; rw [hs, Bool.true_and] : M1.visB us tr = M1.evenB (M1.lvl (M1.ofT 3 tr us us.length)))
    have hnn := M1.lvl_nonneg (M1.ofT 3 tr us us.length)
    go_enter Tryz.func13, Tryz.ntmps13
    go_wp2_with fail
    refine (levelOf_impl _ _ _ _ _ _ h1).mono ?_
    rw [e1]
    rintro e w1 ⟨rfl, hb1⟩
    clear e1
    go_wp2_with fail
    go_ret
    exact ⟨by rw [HQ.out]; rfl, hb1⟩
  · replace hs : M1.setOk us = false := by simpa using hs
    have HQ : Hid (M1.visB us tr = false) := (by unfold M1.visB; rw [hs]; rfl : M1.visB us tr = false)
    have e1 : M1.levelOf us tr = -1 := by unfold M1.levelOf; rw [hs]; rfl
    go_enter Tryz.func13, Tryz.ntmps13
    go_wp2_with fail
    refine (levelOf_impl _ _ _ _ _ _ h1).mono ?_
    rw [e1]
    rintro e w1 ⟨rfl, hb1⟩
    go_wp2_with fail
    go_ret
    exact ⟨by rw [HQ.out]; rfl, hb1⟩

end Go.Proofs.YtpflbhjgnmkajaaGreat
