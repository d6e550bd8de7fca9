/-
  Texts of one proof, joined: Math7, Span1, Span2.
-/
import Derived.Test.YtdpeopmbboogaaaZLongest04
import Derived.Test.YtdpeopmbboogaaaZLongest03
namespace M1

/-- The last number of region r in the first k updates (0: none). -/
def lastN (us : List Upd) : Nat → Int → Int
  | 0, _ => 0
  | k + 1, r => if (up us k).dr = r then (up us k).dn else lastN us k r
theorem lastN_succ (us : List Upd) (k : Nat) (r : Int) : lastN us (k + 1) r = if (up us k).dr = r then (up us k).dn else lastN us k r := rfl
theorem lastN_none {us : List Upd} {r : Int} : ∀ k, (∀ j, j < k → ¬ (up us j).dr = r) → lastN us k r = 0
  | 0, _ => rfl
  | k + 1, h => by rw [lastN_succ, if_neg (h k (by omega))]; exact lastN_none k (fun j hj => h j (by omega))
theorem lastN_at {us : List Upd} {j : Nat} : ∀ k, j < k → (∀ i, j < i → i < k → ¬ (up us i).dr = (up us j).dr) → lastN us k (up us j).dr = (up us j).dn
  | 0, hj, _ => absurd hj (Nat.not_lt_zero _)
  | k + 1, hj, h => by
    rw [lastN_succ]
    by_cases e : j = k
    · rw [e, if_pos rfl]
    · rw [if_neg (h k (by omega) (by omega))]; exact lastN_at k (by omega) (fun i h1 h2 => h i h1 (by omega))

/-- The vector of a set. -/
def vecU (us : List Upd) : List (Int × Int) := dlTo (lastN us us.length) 5
def vectorOf (us : List Upd) : List (Int × Int) := if setOk us = true then vecU us else []
theorem vectorOf_len (us : List Upd) : (vectorOf us).length ≤ 5 := by
  unfold vectorOf; split
  · exact dlTo_len _ 5
  · simp

theorem fol_le {a b : Upd} (h : fol a b = true) : a.dr ≤ b.dr := by
  unfold fol at h
  by_cases e : b.dr = a.dr
  · omega
  · rw [if_neg e] at h
    simp at h; omega
theorem ok_step {us : List Upd} {j : Nat} (h : okAt us (j + 1) = true) : (up us j).dr ≤ (up us (j + 1)).dr := by
  unfold okAt at h
  simp at h
  exact fol_le h.2
theorem ok_mono {us : List Upd} (h : ∀ j, j < us.length → okAt us j = true) {i : Nat} : ∀ j, i ≤ j → j < us.length → (up us i).dr ≤ (up us j).dr
  | 0, hij, _ => by have : i = 0 := by omega
                    rw [this]; exact Int.le_refl _
  | j + 1, hij, hj => by
    by_cases e : i = j + 1
    · rw [e]; exact Int.le_refl _
    · have h1 := ok_mono h (i := i) j (by omega) (by omega)
      have h2 := ok_step (h (j + 1) hj)
      omega
theorem ok_rg {us : List Upd} (h : ∀ j, j < us.length → okAt us j = true) {j : Nat} (hj : j < us.length) : 1 ≤ (up us j).dr ∧ (up us j).dr ≤ 5 ∧ 1 ≤ (up us j).dn ∧ (up us j).dn ≤ 1000000 := okU_dot (okAt_ok (h j hj))

theorem dl_gap {f : Int → Int} {a : Nat} : ∀ b : Nat, a ≤ b → (∀ r : Int, (a : Int) < r → r ≤ b → f r = 0) → dlTo f b = dlTo f a
  | 0, hab, _ => by have : a = 0 := by omega
                    rw [this]
  | b + 1, hab, h => by
    by_cases e : a = b + 1
    · rw [e]
    · rw [dlTo_no (by rw [h ((b : Int) + 1) (by omega) (by omega)]; omega)]
      exact dl_gap b (by omega) (fun r h1 h2 => h r h1 (by omega))

/-- Up to which region the dots have been told when k updates are over. -/
def cl (us : List Upd) (k : Nat) : Nat :=
  if k = 0 then 0 else if k = us.length ∨ ¬ (up us k).dr = (up us (k - 1)).dr then (up us (k - 1)).dr.toNat else (up us (k - 1)).dr.toNat - 1

theorem cl_gap {us : List Upd} (h : ∀ j, j < us.length → okAt us j = true) {k : Nat} (hk : k < us.length) : dlTo (lastN us us.length) ((up us k).dr.toNat - 1) = dlTo (lastN us us.length) (cl us k) := by
  have hk1 := ok_rg h hk
  unfold cl
  by_cases e0 : k = 0
  · rw [if_pos e0]
    refine dl_gap _ (by omega) (fun r h1 h2 => lastN_none _ (fun j hj e => ?_))
    have := ok_mono h (i := k) j (by omega) hj
    omega
  · rw [if_neg e0]
    have hp := ok_rg h (show k - 1 < us.length by omega)
    have hm := ok_mono h (i := k - 1) k (by omega) hk
    by_cases e1 : (up us k).dr = (up us (k - 1)).dr
    · rw [if_neg (by intro q; rcases q with q | q; · omega
                     · exact q e1), e1]
    · rw [if_pos (Or.inr e1)]
      refine dl_gap _ (by omega) (fun r h1 h2 => lastN_none _ (fun j hj e => ?_))
      rcases Nat.lt_or_ge j k with hjk | hjk
      · have := ok_mono h (i := j) (k - 1) (by omega) (by omega); omega
      · have := ok_mono h (i := k) j hjk hj; omega

theorem cl_yes {us : List Upd} (h : ∀ j, j < us.length → okAt us j = true) {k : Nat} (hk : k < us.length) (hc : k + 1 = us.length ∨ ¬ (up us (k + 1)).dr = (up us k).dr) :
    dlTo (lastN us us.length) (cl us (k + 1)) = dlTo (lastN us us.length) (cl us k) ++ [((up us k).dr, (up us k).dn)] := by
  have hk1 := ok_rg h hk
  have e1 : cl us (k + 1) = (up us k).dr.toNat := by
    unfold cl; rw [if_neg (by omega)]; simp only [Nat.add_sub_cancel]; rw [if_pos hc]
  have e2 : lastN us us.length (up us k).dr = (up us k).dn := by
    refine lastN_at _ hk (fun i h1 h2 e => ?_)
    rcases hc with hc | hc
    · omega
    · have q1 := ok_mono h (i := k) (k + 1) (by omega) (by omega)
      have q2 := ok_mono h (i := k + 1) i (by omega) h2
      omega
  rw [e1, ← cl_gap h hk]
  obtain ⟨q, hq⟩ : ∃ q : Nat, (up us k).dr.toNat = q + 1 := ⟨(up us k).dr.toNat - 1, by omega⟩
  have hq2 : (q : Int) + 1 = (up us k).dr := by omega
  rw [hq, Nat.add_sub_cancel, dl_step _ q _ hq2 (by rw [e2]; omega), e2]

theorem cl_no {us : List Upd} (h : ∀ j, j < us.length → okAt us j = true) {k : Nat} (hk : k < us.length) (hc : ¬ (k + 1 = us.length ∨ ¬ (up us (k + 1)).dr = (up us k).dr)) :
    dlTo (lastN us us.length) (cl us (k + 1)) = dlTo (lastN us us.length) (cl us k) := by
  have e1 : cl us (k + 1) = (up us k).dr.toNat - 1 := by
    unfold cl; rw [if_neg (by omega)]; simp only [Nat.add_sub_cancel]; rw [if_neg hc]
  rw [e1, cl_gap h hk]

theorem cl_end {us : List Upd} (h : ∀ j, j < us.length → okAt us j = true) : dlTo (lastN us us.length) (cl us us.length) = vecU us := by
  unfold vecU
  by_cases e0 : us.length = 0
  · have : cl us us.length = 0 := by unfold cl; rw [if_pos e0]
    rw [this]
    exact (dl_gap 5 (by omega) (fun r h1 h2 => lastN_none _ (fun j hj => by omega))).symm
  · have hk1 := ok_rg h (show us.length - 1 < us.length by omega)
    have : cl us us.length = (up us (us.length - 1)).dr.toNat := by unfold cl; rw [if_neg e0, if_pos (Or.inl rfl)]
    rw [this]
    refine (dl_gap 5 (by omega) (fun r h1 h2 => lastN_none _ (fun j hj e => ?_))).symm
    have := ok_mono h (i := j) (us.length - 1) (by omega) (by omega)
    omega
end M1

namespace Go.Proofs.Ytdpeopmbboogaaa
open Go.ChangeShapes Go.WideShapes Go.ChangeAt Go.RowKit

set_option maxHeartbeats 1000000 in
theorem l2Name_any (s : ByteArray) (w : World) (hs : s.size ≤ maxLen) :
    Calls Try.prog 87 #[.string s] w fun e w' => e = .returned (.bool (M1.nameB s)) ∧ w' = w := by
  unfold maxLen at hs
  go_enter Try.func87, Try.ntmps87
  go_wp2
  go_loop [3] (fun i => ∃ k : Nat, k ≤ s.size ∧ i = .int .i64 k ∧ Hid (∀ j (hj : j < s.size), j < k → M1.letB s[j] = true)) (fun i => s.size - (intOf i).toNat)
  case atStart => exact ⟨0, Nat.zero_le _, rfl, fun j _ hj => absurd hj (Nat.not_lt_zero _)⟩
  case round =>
    obtain ⟨k, hk, rfl, hall⟩ := hrel
    by_cases hlt : k < s.size
    · by_cases h1 : 97 ≤ (s[k].toNat : Int)
      · by_cases h2 : (s[k].toNat : Int) ≤ 122
        · have HQ : Hid (∀ j (hj : j < s.size), j < k + 1 → M1.letB s[j] = true) := fun j hj hjk => by
            by_cases e : j = k
            · subst e; simp [M1.letB, h1, h2]
            · exact hall.out j hj (by omega)
          clear hall
          go_wp2
          go_round
          case rel => exact ⟨k + 1, by omega, by go_num, HQ⟩
          case measure => simp [intOf]; omega
        · have HQ : Hid (M1.nameB s = false) := (by unfold M1.nameB; rw [M1.allB_no hlt (by unfold M1.letB; rw [decide_eq_false h2]; simp)]; simp : M1.nameB s = false)
          clear hall
          go_wp2
          go_ret
          exact ⟨by rw [HQ.out]; rfl, rfl⟩
      · have HQ : Hid (M1.nameB s = false) := (by unfold M1.nameB; rw [M1.allB_no hlt (by unfold M1.letB; rw [decide_eq_false h1]; simp)]; simp : M1.nameB s = false)
        clear hall
        go_wp2
        go_ret
        exact ⟨by rw [HQ.out]; rfl, rfl⟩
    · have HQ : Hid (M1.nameB s = (decide (1 ≤ s.size) && decide (s.size ≤ 12))) := (by unfold M1.nameB; rw [M1.allB_yes fun j hj => hall.out j hj (by omega)]; simp : M1.nameB s = (decide (1 ≤ s.size) && decide (s.size ≤ 12)))
      clear hall
      by_cases h3 : 1 ≤ s.size
      · by_cases h4 : s.size ≤ 12
        · go_wp2
          go_ret
          exact ⟨by rw [HQ.out]; simp [h3, h4]; omega, rfl⟩
        · go_wp2
          go_ret
          exact ⟨by rw [HQ.out]; simp [h3, h4]; omega, rfl⟩
      · go_wp2
        go_ret
        exact ⟨by rw [HQ.out]; simp [h3], rfl⟩

set_option maxHeartbeats 1000000 in
theorem nameOk_any (s : ByteArray) (w : World) (hs : s.size ≤ maxLen) :
    Calls Try.prog 132 #[.string s] w fun e w' => e = .returned (.bool (M1.nameB s)) ∧ w' = w := by
  unfold maxLen at hs
  by_cases h3 : s.size = 0
  · have HQ : Hid (M1.nameB s = false) := (by unfold M1.nameB; simp [h3] : M1.nameB s = false)
    have h5 : ((s.size : Int) == 0) = true := by simp [h3]
    clear h3
    go_enter Try.func132, Try.ntmps132
    go_wp2
    go_ret
    exact ⟨by rw [HQ.out]; rfl, rfl⟩
  · have h5 : ((s.size : Int) == 0) = false := by simp [h3]
    by_cases h4 : 12 < s.size
    · have HQ : Hid (M1.nameB s = false) := (by unfold M1.nameB; simp; intro _ h; omega : M1.nameB s = false)
      go_enter Try.func132, Try.ntmps132
      go_wp2
      go_ret
      exact ⟨by rw [HQ.out]; rfl, rfl⟩
    · go_enter Try.func132, Try.ntmps132
      go_wp2
      go_loop [3] (fun i => ∃ k : Nat, k ≤ s.size ∧ i = .int .i64 k ∧ Hid (∀ j (hj : j < s.size), j < k → M1.letB s[j] = true)) (fun i => s.size - (intOf i).toNat)
      case atStart => exact ⟨0, Nat.zero_le _, rfl, fun j _ hj => absurd hj (Nat.not_lt_zero _)⟩
      case round =>
        obtain ⟨k, hk, rfl, hall⟩ := hrel
        by_cases hlt : k < s.size
        · by_cases h1 : 97 ≤ (s[k].toNat : Int)
          · by_cases h2 : (s[k].toNat : Int) ≤ 122
            · have HQ : Hid (∀ j (hj : j < s.size), j < k + 1 → M1.letB s[j] = true) := fun j hj hjk => by
                by_cases e : j = k
                · subst e; simp [M1.letB, h1, h2]
                · exact hall.out j hj (by omega)
              clear hall
              go_wp2
              go_round
              case rel => exact ⟨k + 1, by omega, by go_num, HQ⟩
              case measure => simp [intOf]; omega
            · have HQ : Hid (M1.nameB s = false) := (by unfold M1.nameB; rw [M1.allB_no hlt (by unfold M1.letB; rw [decide_eq_false h2]; simp)]; simp : M1.nameB s = false)
              clear hall
              go_wp2
              go_ret
              exact ⟨by rw [HQ.out]; rfl, rfl⟩
          · have HQ : Hid (M1.nameB s = false) := (by unfold M1.nameB; rw [M1.allB_no hlt (by unfold M1.letB; rw [decide_eq_false h1]; simp)]; simp : M1.nameB s = false)
            clear hall
            go_wp2
            go_ret
            exact ⟨by rw [HQ.out]; rfl, rfl⟩
        · have HQ : Hid (M1.nameB s = true) := (by unfold M1.nameB; rw [M1.allB_yes fun j hj => hall.out j hj (by omega)]; simp; omega : M1.nameB s = true)
          clear hall
          go_wp2
          go_ret
          exact ⟨by rw [HQ.out]; rfl, rfl⟩

end Go.Proofs.Ytdpeopmbboogaaa

namespace Go.Proofs.Ytdpeopmbboogaaa
open Go.ChangeShapes Go.WideShapes Go.ChangeAt Go.RowKit

set_option maxHeartbeats 1000000 in
theorem spanOk_spec (a b c d : Int) (s : ByteArray) (w : World) (hs : s.size ≤ maxLen) :
    Calls Try.prog 64 #[.agg #[.int .i64 a, .int .i64 b, .string s, .int .i64 c, .int .i64 d]] w fun e w' => e = .returned (.bool (M1.spanB a b s c d)) ∧ Below w.heap.size w w' := by
  unfold M1.spanB
  go_enter Try.func64, Try.ntmps64
  go_wp2_with (first | (go_at_call 63; refine (l1In_any _ _ _ _).mono ?_; rintro e w' ⟨rfl, rfl⟩) | (go_at_call 87; refine (l2Name_any _ _ hs).mono ?_; rintro e w' ⟨rfl, rfl⟩))
  all_goals (go_ret)
  all_goals (exact ⟨by simp_all, (Below.refl _ _).alloc (Nat.le_refl _) _⟩)

set_option maxHeartbeats 1000000 in
theorem spanOk_impl (a b c d : Int) (s : ByteArray) (w : World) (hs : s.size ≤ maxLen) :
    Calls Try.prog 131 #[.agg #[.int .i64 a, .int .i64 b, .string s, .int .i64 c, .int .i64 d]] w fun e w' => e = .returned (.bool (M1.spanB a b s c d)) ∧ Below w.heap.size w w' := by
  rw [M1.spanB_eq]
  go_enter Try.func131, Try.ntmps131
  go_wp2_with (first | (go_at_call 90; refine (inRange_any _ _ _ _).mono ?_; rintro e w' ⟨rfl, rfl⟩) | (go_at_call 105; refine (timeOk_any _ _).mono ?_; rintro e w' ⟨rfl, rfl⟩) | (go_at_call 132; refine (nameOk_any _ _ hs).mono ?_; rintro e w' ⟨rfl, rfl⟩))
  all_goals (go_ret)
  all_goals (exact ⟨by simp_all, (Below.refl _ _).alloc (Nat.le_refl _) _⟩)

theorem toSpan_any (a b c d : Int) (s : ByteArray) (w : World) :
    Calls Try.prog 75 #[.agg #[.int .i64 a, .int .i64 b, .string s, .int .i64 c, .int .i64 d]] w fun e w' => e = .returned (.agg #[.int .i64 a, .int .i64 b, .string s, .int .i64 c, .int .i64 d]) ∧ Below w.heap.size w w' := by
  go_enter Try.func75, Try.ntmps75
  go_wp2
  refine bodyPost_ret (v := .agg #[.int .i64 a, .int .i64 b, .string s, .int .i64 c, .int .i64 d]) (by simp [results, Try.results75, go_sem]) rfl ⟨rfl, ?_⟩
  repeat (first | (with_reducible exact Below.refl _ _) | ((with_reducible refine Below.setCell ?_ ?_ _); rotate_left; (focus (first | omega | (simp; done) | (simp; omega)))) | ((with_reducible refine Below.alloc ?_ ?_ _); rotate_left; (focus (first | omega | (simp; done) | (simp; omega)))) | (with_reducible refine Below.drew ?_))

theorem szSpan_yes (a b c d : Int) (s : ByteArray) (left : Int) (w : World) (h0 : 0 ≤ left) (h1 : left ≤ 1048576) (hs : s.size ≤ maxLen) (h : (s.size : Int) ≤ left) :
    Calls Try.prog 72 #[.agg #[.int .i64 a, .int .i64 b, .string s, .int .i64 c, .int .i64 d], .int .i64 left] w fun e w' => e = .returned (.int .i64 (left - s.size)) ∧ Below w.heap.size w w' := by
  unfold maxLen at hs
  go_enter Try.func72, Try.ntmps72
  go_wp2
  go_ret
  exact ⟨rfl, (Below.refl _ _).alloc (Nat.le_refl _) _⟩

theorem szSpan_no (a b c d : Int) (s : ByteArray) (left : Int) (w : World) (h0 : 0 ≤ left) (h1 : left ≤ 1048576) (hs : s.size ≤ maxLen) (h : left < (s.size : Int)) :
    Calls Try.prog 72 #[.agg #[.int .i64 a, .int .i64 b, .string s, .int .i64 c, .int .i64 d], .int .i64 left] w fun e w' => e = .returned (.int .i64 (-1)) ∧ Below w.heap.size w w' := by
  unfold maxLen at hs
  go_enter Try.func72, Try.ntmps72
  go_wp2
  go_ret
  exact ⟨rfl, (Below.refl _ _).alloc (Nat.le_refl _) _⟩

end Go.Proofs.Ytdpeopmbboogaaa
