/-
  A slice of dots is copied cell by cell: the contract of the laws' toDotS.
-/
import Derived.Test.YthnkpcoockhfcaaVec1
import Derived.Test.YthnkpcoockhfcaaRow
namespace Go.Proofs.Ythnkpcoockhfcaa
open Go.ChangeShapes Go.WideShapes Go.ChangeAt Go.RowKit

/-- The cells of a row of dots. -/
def dcell (ds : List (Int × Int)) (o : Nat) : Value := if o % 2 = 0 then .int .i64 (M1.rg ds (o / 2)) else .int .i64 (M1.nm ds (o / 2))
theorem dcell_even (ds : List (Int × Int)) (k : Nat) : dcell ds (k * 2) = .int .i64 (M1.rg ds k) := by
  unfold dcell; rw [if_pos (by omega), show k * 2 / 2 = k from by omega]
theorem dcell_odd (ds : List (Int × Int)) (k : Nat) : dcell ds (k * 2 + 1) = .int .i64 (M1.nm ds k) := by
  unfold dcell; rw [if_neg (by omega), show (k * 2 + 1) / 2 = k from by omega]

theorem isVec_of_row {w : World} {g n cap : Nat} {ds : List (Int × Int)} (hl : ds.length = n) (hc : n ≤ cap) (hm : cap ≤ maxLen) (h : RowAt w g (n * 2) (dcell ds)) : IsVec w (some ⟨g, 0, none⟩) n cap ds :=
  ⟨hl, hc, hm, Or.inr ⟨g, 0, rfl, h.lt, fun i hi => ⟨by rw [Nat.zero_add, h.cell (by omega), dcell_even], by rw [Nat.zero_add, h.cell (by omega), dcell_odd]⟩⟩⟩

theorem infoDot0 : (Try.prog.info? 36).map (fun i => (i.zero, i.size, i.bytes)) = some (some (.agg #[.int .i64 0, .int .i64 0]), 2, 16) := by kernel_rfl
theorem infoDot : ∃ i, Try.prog.info? 36 = some i ∧ i.zero = some (.agg #[.int .i64 0, .int .i64 0]) ∧ i.size = 2 ∧ i.bytes = 16 := by
  have h := infoDot0
  cases e : Try.prog.info? 36 with
  | none => rw [e] at h; cases h
  | some i => rw [e] at h; simp at h; exact ⟨i, rfl, h.1, h.2.1, h.2.2⟩

set_option maxHeartbeats 1000000 in
theorem toDotS_any (av : Option Addr) (n cn : Nat) (ds : List (Int × Int)) (w : World) (h1 : IsVec w av n cn ds) (hn : n ≤ 1048576) :
    Calls Try.prog 40 #[.slice av n cn] w fun e w' => ∃ g, e = .returned (.slice (some ⟨g, 0, none⟩) n n) ∧ w.heap.size ≤ g ∧ RowAt w' g (n * 2) (dcell ds) ∧ Below w.heap.size w w' := by
  have hl1 : Hid (ds.length = n) := h1.hlen
  have hm1 := h1.hcap
  have hm2 := h1.hmost
  unfold maxLen at hm2
  obtain ⟨ti, hi1, hi2, hi3, hi4⟩ := infoDot
  have hi4' : Hid (ti.bytes = 16) := hi4
  have hi2' : Hid (ti.zero = some (.agg #[.int .i64 0, .int .i64 0])) := hi2
  have hi3' : Hid (ti.size = 2) := hi3
  have hi1' : Hid (Try.prog.info? 36 = some ti) := hi1
  clear hi1 hi2 hi3 hi4
  go_enter Try.func40, Try.ntmps40
  go_wp2_with (at_make; refine wpList_make_full _ rfl _ _ _ rfl w.heap.size 36 ti _ 2 Try.underlying24 hi1'.out hi2'.out hi3'.out _ _ _ _ n rfl rfl rfl rfl (by rw [hi4'.out]; omega) (by unfold maxLen; omega) (Nat.le_refl _) ?_; intro w1 hown hgrow)
  have hrow0 := RowAt.of_owns hown
  have hB1 : Below w.heap.size w w1 := (Below.refl _ _).grown hgrow (Nat.le_refl _) (fun k e => by cases e)
  clear hown hgrow hi1' hi2' hi3' hi4'
  go_wp2_with fail
  go_loopw [4] (fun i wr => ∃ k : Nat, k ≤ n ∧ i = .int .i64 k ∧ Below w.heap.size w wr ∧ ∃ f, RowAt wr w.heap.size (n * 2) f ∧ Hid (∀ o, o < k * 2 → f o = dcell ds o)) (fun i _ => n - (intOf i).toNat)
  case atStart => exact ⟨0, Nat.zero_le _, rfl, hB1, _, hrow0, fun o ho => absurd ho (by omega)⟩
  case round =>
    clear hrow0 hB1
    obtain ⟨k, hk, rfl, hB, f, hrow, hall⟩ := hrel
    by_cases hlt : k < n
    · have g1 := h1.below hB
      rcases g1.hlies with h0 | ⟨b, off, rfl, hb, hc⟩
      · omega
      obtain ⟨c1, c2⟩ := hc k hlt
      clear hc g1
      have i0 : (0 : Int) ≤ (k : Int) := by omega
      have i1 : (k : Int) < (n : Int) := by omega
      go_wp2_with fail
      refine (toDot_any _ _ _).mono ?_
      rintro e w2 ⟨rfl, hb2⟩
      have hrow2 := hrow.below hb2
      have hB2 := hB.trans (hb2.mono hB.size)
      have d1 := hrow2.cell (o := k * 2) (by omega)
      have d2 := hrow2.cell (o := k * 2 + 1) (by omega)
      have d3 := hrow2.free (o := k * 2) (by omega)
      have d4 := hrow2.free (o := k * 2 + 1) (by omega)
      go_wp2_with fail
      refine ⟨⟨k + 1, by omega, by go_num, (hB2.setCell (Nat.le_refl _) _).setCell (Nat.le_refl _) _, _, (hrow2.set (by omega) _).set (by omega) _, fun o ho => ?_⟩, by simp [intOf]; omega⟩
      show (if o = k * 2 + 1 then _ else if o = k * 2 then _ else _) = _
      by_cases e1 : o = k * 2 + 1
      · rw [if_pos e1, e1, dcell_odd]
      · rw [if_neg e1]
        by_cases e2 : o = k * 2
        · rw [if_pos e2, e2, dcell_even]
        · rw [if_neg e2]; exact hall.out o (by omega)
    · have hkn : Hid (k = n) := by show k = n; omega
      go_wp2_with fail
      go_ret
      exact ⟨_, rfl, Nat.le_refl _, hrow.same (fun o ho => hall.out o (by have := hkn.out; omega)), hB⟩
end Go.Proofs.Ythnkpcoockhfcaa
