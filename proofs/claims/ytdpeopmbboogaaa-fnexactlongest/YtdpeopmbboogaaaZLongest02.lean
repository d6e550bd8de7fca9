/-
  Texts of one proof, joined: Math7, Kept, Walk1.
-/
import Derived.Test.YtdpeopmbboogaaaZLongest01
import Derived.WalkKit
import Derived.Below
import Derived.Test.YtdpeopmbboogaaaRows
import Derived.Test.YtdpeopmbboogaaaZLongest00
import Derived.ProofKit
import Derived.OpenShut
namespace M1

/-- The last number of region r in the first k updates (0: none). -/
def lastN (us : List Upd) : Nat → Int → Int
  | 0, _ => 0
  | k + 1, r => if (up us k).dr = r then (up us k).dn else lastN us k r
theorem lastN_succ (us : List Upd) (k : Nat) (r : Int) : lastN us (k + 1) r = if (up us k).dr = r then (up us k).dn else lastN us k r := rfl
theorem lastN_none {us : List Upd} {r : Int} : ∀ k, (∀ j, j < k → ¬ (up us j).dr = r) → lastN us k r = 0
  | 0, _ => rfl
  | k + 1, h => by rw [lastN_succ, if_neg (h k (by omega))]; exact lastN_none k (fun j hj => h j (by omega))
theorem lastN_at {us : List Upd} {j : Nat} : ∀ k, j < k → (∀ i, j < i → i < k → ¬ (up us i).dr = (up us j).dr) → lastN us k (up us j).dr = (up us j).dn
  | 0, hj, _ => absurd hj (Nat.not_lt_zero _)
  | k + 1, hj, h => by
    rw [lastN_succ]
    by_cases e : j = k
    · rw [e, if_pos rfl]
    · rw [if_neg (h k (by omega) (by omega))]; exact lastN_at k (by omega) (fun i h1 h2 => h i h1 (by omega))

/-- The vector of a set. -/
def vecU (us : List Upd) : List (Int × Int) := dlTo (lastN us us.length) 5
def vectorOf (us : List Upd) : List (Int × Int) := if setOk us = true then vecU us else []
theorem vectorOf_len (us : List Upd) : (vectorOf us).length ≤ 5 := by
  unfold vectorOf; split
  · exact dlTo_len _ 5
  · simp

theorem fol_le {a b : Upd} (h : fol a b = true) : a.dr ≤ b.dr := by
  unfold fol at h
  by_cases e : b.dr = a.dr
  · omega
  · rw [if_neg e] at h
    simp at h; omega
theorem ok_step {us : List Upd} {j : Nat} (h : okAt us (j + 1) = true) : (up us j).dr ≤ (up us (j + 1)).dr := by
  unfold okAt at h
  simp at h
  exact fol_le h.2
theorem ok_mono {us : List Upd} (h : ∀ j, j < us.length → okAt us j = true) {i : Nat} : ∀ j, i ≤ j → j < us.length → (up us i).dr ≤ (up us j).dr
  | 0, hij, _ => by have : i = 0 := by omega
                    rw [this]; exact Int.le_refl _
  | j + 1, hij, hj => by
    by_cases e : i = j + 1
    · rw [e]; exact Int.le_refl _
    · have h1 := ok_mono h (i := i) j (by omega) (by omega)
      have h2 := ok_step (h (j + 1) hj)
      omega
theorem ok_rg {us : List Upd} (h : ∀ j, j < us.length → okAt us j = true) {j : Nat} (hj : j < us.length) : 1 ≤ (up us j).dr ∧ (up us j).dr ≤ 5 ∧ 1 ≤ (up us j).dn ∧ (up us j).dn ≤ 1000000 := okU_dot (okAt_ok (h j hj))

theorem dl_gap {f : Int → Int} {a : Nat} : ∀ b : Nat, a ≤ b → (∀ r : Int, (a : Int) < r → r ≤ b → f r = 0) → dlTo f b = dlTo f a
  | 0, hab, _ => by have : a = 0 := by omega
                    rw [this]
  | b + 1, hab, h => by
    by_cases e : a = b + 1
    · rw [e]
    · rw [dlTo_no (by rw [h ((b : Int) + 1) (by omega) (by omega)]; omega)]
      exact dl_gap b (by omega) (fun r h1 h2 => h r h1 (by omega))

/-- Up to which region the dots have been told when k updates are over. -/
def cl (us : List Upd) (k : Nat) : Nat :=
  if k = 0 then 0 else if k = us.length ∨ ¬ (up us k).dr = (up us (k - 1)).dr then (up us (k - 1)).dr.toNat else (up us (k - 1)).dr.toNat - 1

theorem cl_gap {us : List Upd} (h : ∀ j, j < us.length → okAt us j = true) {k : Nat} (hk : k < us.length) : dlTo (lastN us us.length) ((up us k).dr.toNat - 1) = dlTo (lastN us us.length) (cl us k) := by
  have hk1 := ok_rg h hk
  unfold cl
  by_cases e0 : k = 0
  · rw [if_pos e0]
    refine dl_gap _ (by omega) (fun r h1 h2 => lastN_none _ (fun j hj e => ?_))
    have := ok_mono h (i := k) j (by omega) hj
    omega
  · rw [if_neg e0]
    have hp := ok_rg h (show k - 1 < us.length by omega)
    have hm := ok_mono h (i := k - 1) k (by omega) hk
    by_cases e1 : (up us k).dr = (up us (k - 1)).dr
    · rw [if_neg (by intro q; rcases q with q | q; · omega
                     · exact q e1), e1]
    · rw [if_pos (Or.inr e1)]
      refine dl_gap _ (by omega) (fun r h1 h2 => lastN_none _ (fun j hj e => ?_))
      rcases Nat.lt_or_ge j k with hjk | hjk
      · have := ok_mono h (i := j) (k - 1) (by omega) (by omega); omega
      · have := ok_mono h (i := k) j hjk hj; omega

theorem cl_yes {us : List Upd} (h : ∀ j, j < us.length → okAt us j = true) {k : Nat} (hk : k < us.length) (hc : k + 1 = us.length ∨ ¬ (up us (k + 1)).dr = (up us k).dr) :
    dlTo (lastN us us.length) (cl us (k + 1)) = dlTo (lastN us us.length) (cl us k) ++ [((up us k).dr, (up us k).dn)] := by
  have hk1 := ok_rg h hk
  have e1 : cl us (k + 1) = (up us k).dr.toNat := by
    unfold cl; rw [if_neg (by omega)]; simp only [Nat.add_sub_cancel]; rw [if_pos hc]
  have e2 : lastN us us.length (up us k).dr = (up us k).dn := by
    refine lastN_at _ hk (fun i h1 h2 e => ?_)
    rcases hc with hc | hc
    · omega
    · have q1 := ok_mono h (i := k) (k + 1) (by omega) (by omega)
      have q2 := ok_mono h (i := k + 1) i (by omega) h2
      omega
  rw [e1, ← cl_gap h hk]
  obtain ⟨q, hq⟩ : ∃ q : Nat, (up us k).dr.toNat = q + 1 := ⟨(up us k).dr.toNat - 1, by omega⟩
  have hq2 : (q : Int) + 1 = (up us k).dr := by omega
  rw [hq, Nat.add_sub_cancel, dl_step _ q _ hq2 (by rw [e2]; omega), e2]

theorem cl_no {us : List Upd} (h : ∀ j, j < us.length → okAt us j = true) {k : Nat} (hk : k < us.length) (hc : ¬ (k + 1 = us.length ∨ ¬ (up us (k + 1)).dr = (up us k).dr)) :
    dlTo (lastN us us.length) (cl us (k + 1)) = dlTo (lastN us us.length) (cl us k) := by
  have e1 : cl us (k + 1) = (up us k).dr.toNat - 1 := by
    unfold cl; rw [if_neg (by omega)]; simp only [Nat.add_sub_cancel]; rw [if_neg hc]
  rw [e1, cl_gap h hk]

theorem cl_end {us : List Upd} (h : ∀ j, j < us.length → okAt us j = true) : dlTo (lastN us us.length) (cl us us.length) = vecU us := by
  unfold vecU
  by_cases e0 : us.length = 0
  · have : cl us us.length = 0 := by unfold cl; rw [if_pos e0]
    rw [this]
    exact (dl_gap 5 (by omega) (fun r h1 h2 => lastN_none _ (fun j hj => by omega))).symm
  · have hk1 := ok_rg h (show us.length - 1 < us.length by omega)
    have : cl us us.length = (up us (us.length - 1)).dr.toNat := by unfold cl; rw [if_neg e0, if_pos (Or.inl rfl)]
    rw [this]
    refine (dl_gap 5 (by omega) (fun r h1 h2 => lastN_none _ (fun j hj e => ?_))).symm
    have := ok_mono h (i := j) (us.length - 1) (by omega) (by omega)
    omega
end M1

namespace Go.Proofs.Ytdpeopmbboogaaa
open Go.RowKit

/-- From W0 on nothing below its end has turned: as a fact, and as rules for the walk. -/
abbrev Kp (W0 w' : World) : Prop := Below W0.heap.size W0 w' ∧ (∀ b o, b < W0.heap.size → w'.cell? ⟨b, o, none⟩ = W0.cell? ⟨b, o, none⟩)

theorem kp_of {W0 w' : World} (h : Below W0.heap.size W0 w') : Kp W0 w' := ⟨h, fun b o hb => h.cell (p := ⟨b, o, none⟩) hb⟩
theorem kp_zero (W0 : World) : Kp W0 W0.drew := kp_of (Below.refl _ _).drew
theorem kp_drew {W0 w1 : World} (h : Kp W0 w1) : Kp W0 w1.drew := kp_of h.1.drew
theorem kp_step {W0 w1 w2 : World} (h : Kp W0 w1) (hb : Below w1.heap.size w1 w2) : Kp W0 w2 := kp_of (h.1.trans (hb.mono h.1.size))

theorem bcell {W w1 : World} (hb : Below W.heap.size W w1) : (∀ b o, b < W.heap.size → w1.cell? ⟨b, o, none⟩ = W.cell? ⟨b, o, none⟩) ∧ (∀ b o, b < W.heap.size → w1.frozen? ⟨b, o, none⟩ = W.frozen? ⟨b, o, none⟩) :=
  ⟨fun b o h => hb.cell (p := ⟨b, o, none⟩) h, fun b o h => hb.frozen (p := ⟨b, o, none⟩) h⟩

/-- The same, and that what was a block's number below the end is so still: rules for the walk. -/
theorem brules {W w1 : World} (hb : Below W.heap.size W w1) : (∀ b o, b < W.heap.size → w1.cell? ⟨b, o, none⟩ = W.cell? ⟨b, o, none⟩) ∧ (∀ b o, b < W.heap.size → w1.frozen? ⟨b, o, none⟩ = W.frozen? ⟨b, o, none⟩) ∧ (∀ n, n < W.heap.size → n < w1.heap.size) ∧ (∀ n, n < W.heap.size → ¬ n = w1.heap.size) :=
  ⟨fun b o h => hb.cell (p := ⟨b, o, none⟩) h, fun b o h => hb.frozen (p := ⟨b, o, none⟩) h, fun n h => Nat.lt_of_lt_of_le h hb.size, fun n h => by have := hb.size; omega⟩

theorem cum {A w1 w2 : World} (h1 : Below A.heap.size A w1) (h2 : Below w1.heap.size w1 w2) : Below A.heap.size A w2 := h1.trans (h2.mono h1.size)
theorem kp_alloc {W0 w1 : World} (h : Kp W0 w1) (o : Obj) : Kp W0 (w1.alloc o) := kp_of (h.1.alloc h.1.size o)
theorem kp_realloc {W0 w1 : World} {o : Obj} (h : Kp W0 (w1.alloc o)) (hs : W0.heap.size ≤ w1.heap.size) (o' : Obj) : Kp W0 (w1.alloc o') :=
  kp_of ⟨h.1.os, h.1.tape, h.1.output, by simp; omega, fun k hk => by
    have := h.1.block k hk
    rw [Below.heap_alloc w1 o k (by omega)] at this
    rw [Below.heap_alloc w1 o' k (by omega)]; exact this⟩
theorem kp_set {W0 w1 : World} (h : Kp W0 w1) (p : Addr) (v : Value) (hp : W0.heap.size ≤ p.block) : Kp W0 (w1.setCell p v) := kp_of (h.1.setCell hp v)
end Go.Proofs.Ytdpeopmbboogaaa

namespace Go.Proofs.Ytdpeopmbboogaaa
open Go.ChangeShapes Go.WideShapes Go.ChangeAt Go.RowKit

theorem l1In_any (n lo hi : Int) (w : World) :
    Calls Try.prog 63 #[.int .i64 n, .int .i64 lo, .int .i64 hi] w fun e w' => e = .returned (.bool (M1.inB n lo hi)) ∧ w' = w := by
  unfold M1.inB
  by_cases h1 : lo ≤ n <;> by_cases h2 : n ≤ hi
  all_goals
    go_enter Try.func63, Try.ntmps63
    go_wp2
    go_ret
    exact ⟨by simp [*], rfl⟩

theorem inRange_any (n lo hi : Int) (w : World) :
    Calls Try.prog 90 #[.int .i64 n, .int .i64 lo, .int .i64 hi] w fun e w' => e = .returned (.bool (M1.inB n lo hi)) ∧ w' = w := by
  unfold M1.inB
  by_cases h1 : lo ≤ n <;> by_cases h2 : n ≤ hi
  all_goals
    go_enter Try.func90, Try.ntmps90
    go_wp2
    go_ret
    exact ⟨by simp [*], rfl⟩

theorem timeOk_any (n : Int) (w : World) :
    Calls Try.prog 105 #[.int .i64 n] w fun e w' => e = .returned (.bool (M1.inB n 0 1000000000)) ∧ w' = w := by
  go_enter Try.func105, Try.ntmps105
  go_wp2_with ((go_at_call 90; refine (inRange_any _ _ _ _).mono ?_; rintro e w' ⟨rfl, rfl⟩))
  go_ret
  exact ⟨rfl, rfl⟩

theorem stampOk_spec (a b c : Int) (w : World) :
    Calls Try.prog 62 #[.agg #[.int .i64 a, .int .i64 b, .int .i64 c]] w fun e w' => e = .returned (.bool (M1.stOk a b c)) ∧ Below w.heap.size w w' := by
  unfold M1.stOk
  go_enter Try.func62, Try.ntmps62
  go_wp2_with ((go_at_call 63; refine (l1In_any _ _ _ _).mono ?_; rintro e w' ⟨rfl, rfl⟩))
  all_goals (go_ret)
  all_goals (exact ⟨by simp [*], (Below.refl _ _).alloc (Nat.le_refl _) _⟩)

theorem stampOk_impl (a b c : Int) (w : World) :
    Calls Try.prog 89 #[.agg #[.int .i64 a, .int .i64 b, .int .i64 c]] w fun e w' => e = .returned (.bool (M1.stOk a b c)) ∧ Below w.heap.size w w' := by
  unfold M1.stOk
  go_enter Try.func89, Try.ntmps89
  go_wp2_with (first | (go_at_call 90; refine (inRange_any _ _ _ _).mono ?_; rintro e w' ⟨rfl, rfl⟩) | (go_at_call 105; refine (timeOk_any _ _).mono ?_; rintro e w' ⟨rfl, rfl⟩))
  all_goals (go_ret)
  all_goals (exact ⟨by simp [*], (Below.refl _ _).alloc (Nat.le_refl _) _⟩)

theorem ahead_spec (a b c x y z : Int) (w : World) :
    Calls Try.prog 37 #[.agg #[.int .i64 a, .int .i64 b, .int .i64 c], .agg #[.int .i64 x, .int .i64 y, .int .i64 z]] w fun e w' => e = .returned (.bool (M1.aheadB a b c x y z)) ∧ Below w.heap.size w w' := by
  unfold M1.aheadB
  go_enter Try.func37, Try.ntmps37
  go_wp2
  all_goals (go_ret)
  all_goals (exact ⟨by simp_all, ((Below.refl _ _).alloc (Nat.le_refl _) _).alloc (by simp) _⟩)

theorem ahead_impl (a b c x y z : Int) (w : World) :
    Calls Try.prog 41 #[.agg #[.int .i64 a, .int .i64 b, .int .i64 c], .agg #[.int .i64 x, .int .i64 y, .int .i64 z]] w fun e w' => e = .returned (.bool (M1.aheadB a b c x y z)) ∧ Below w.heap.size w w' := by
  unfold M1.aheadB
  go_enter Try.func41, Try.ntmps41
  go_wp2
  all_goals (go_ret)
  all_goals (exact ⟨by simp_all, ((Below.refl _ _).alloc (Nat.le_refl _) _).alloc (by simp) _⟩)

end Go.Proofs.Ytdpeopmbboogaaa
