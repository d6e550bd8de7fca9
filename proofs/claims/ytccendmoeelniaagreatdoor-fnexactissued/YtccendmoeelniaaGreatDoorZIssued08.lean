/-
  Texts of one proof, joined: MarkU.
-/
import Derived.Test.YtccendmoeelniaaGreatDoorZIssued05
import Derived.Test.YtccendmoeelniaaGreatDoorZIssued07
import Derived.Laws.BytesArg
namespace M1
open Go
def mtF : Nat → Int → ByteArray → ByteArray
  | 0, _, acc => acc
  | f + 1, k, acc => if 0 < k then mtF f (k / 10) (strOfNums [48 + k % 10] ++ acc) else acc

theorem mtF_zero : ∀ (f : Nat) (acc : ByteArray), mtF f 0 acc = acc
  | 0, _ => rfl
  | f + 1, acc => by show (if (0 : Int) < 0 then _ else acc) = acc; rw [if_neg (by omega)]

theorem mtF_step (f : Nat) (k : Int) (acc : ByteArray) (h : 0 < k) : mtF (f + 1) k acc = mtF f (k / 10) (strOfNums [48 + k % 10] ++ acc) := by
  show (if 0 < k then _ else acc) = _; rw [if_pos h]

def mtext (k : Int) : ByteArray := if k ≤ 0 then ⟨#[109, 48]⟩ else ⟨#[109]⟩ ++ mtF 20 k ⟨#[]⟩

end M1
namespace Go.Proofs.YtccendmoeelniaaGreatDoor
open Go.ChangeShapes Go.WideShapes Go.ChangeAt Go.RowKit
set_option linter.unusedSimpArgs false
set_option linter.unusedVariables false
set_option maxHeartbeats 2000000 in
set_option maxRecDepth 100000 in
theorem markText_any (k : Int) (w : World) (h0 : 0 ≤ k) (h1 : k ≤ 1000000000) :
    Calls Tryz.prog 78 #[.int .i64 k] w fun e w' => e = .returned (.string (M1.mtext k)) ∧ Below w.heap.size w w' := by
  by_cases hk : k ≤ 0
  · have HQ : Hid (M1.mtext k = ⟨#[109, 48]⟩) := (by unfold M1.mtext; rw [if_pos hk] : M1.mtext k = ⟨#[109, 48]⟩)
    go_enter Tryz.func78, Tryz.ntmps78
    go_wp2_with fail
    go_ret
    exact ⟨by rw [HQ.out]; rfl, Below.refl _ _⟩
  · have HQ : Hid (M1.mtext k = ⟨#[109]⟩ ++ M1.mtF 20 k ⟨#[]⟩) := (by unfold M1.mtext; rw [if_neg hk] : M1.mtext k = ⟨#[109]⟩ ++ M1.mtF 20 k ⟨#[]⟩)
    go_enter Tryz.func78, Tryz.ntmps78
    go_wp2_with fail
    go_loopw [0, 3] (fun x s wr => ∃ (y : Int) (f : Nat) (t : ByteArray), 0 ≤ y ∧ y ≤ 1000000000 ∧ x = .int .i64 y ∧ s = .string t ∧ t.size + f = 20 ∧ Hid (y < 10 ^ f) ∧ Hid (M1.mtF f y t = M1.mtF 20 k ⟨#[]⟩) ∧ Below w.heap.size w wr) (fun x _ _ => (intOf x).toNat)
    case atStart => exact ⟨k, 20, ⟨#[]⟩, h0, h1, rfl, rfl, rfl, (by show k < 10 ^ 20; omega), (rfl : M1.mtF 20 k ⟨#[]⟩ = _), Below.refl _ _⟩
    case round =>
      obtain ⟨y, f, t, y0, y1, rfl, rfl, hsz, hf, ht, hB⟩ := hrel
      by_cases hy : 0 < y
      · obtain ⟨f, rfl⟩ : ∃ f', f = f' + 1 := by
          cases f with
          | zero => have := hf.out; simp at this; omega
          | succ f' => exact ⟨f', rfl⟩
        have HT : Hid (M1.mtF f (y / 10) (strOfNums [48 + y % 10] ++ t) = M1.mtF 20 k ⟨#[]⟩) := (by rw [← M1.mtF_step f y t hy]; exact ht.out : M1.mtF f (y / 10) (strOfNums [48 + y % 10] ++ t) = M1.mtF 20 k ⟨#[]⟩)
        have HF : Hid (y / 10 < 10 ^ f) := (by have := hf.out; rw [Int.pow_succ] at this; omega : y / 10 < 10 ^ f)
        have hconv : (convert 22 9 (.slice (some ⟨wr.heap.size, 0, none⟩) 1 1)).run Tryz.prog (wr.alloc (.cells #[.int .u8 (48 + y % 10)] 5)) = .ok (.string (strOfNums [48 + y % 10])) (wr.alloc (.cells #[.int .u8 (48 + y % 10)] 5)) :=
          run_convert_bytes_arg (P := Tryz.prog) _ 22 5 Tryz.underlying22 Tryz.underlying5 wr.heap.size 0 1 1 [48 + y % 10] rfl (fun i hi => (by have e : i = 0 := Nat.lt_one_iff.1 hi; rw [e]; simp)) _ Tryz.underlying9
        have hss : (strOfNums [48 + y % 10]).size = 1 := rfl
        clear hf ht
        go_wp2_with fail
        exact ⟨⟨y / 10, f, strOfNums [48 + y % 10] ++ t, by omega, by omega, rfl, rfl, by rw [ByteArray.size_append, hss]; omega, HF, HT, hB.alloc hB.size _⟩, by simp [intOf]; omega⟩
      · obtain rfl : y = 0 := by omega
        have HT : Hid (t = M1.mtF 20 k ⟨#[]⟩) := (by have := ht.out; rwa [M1.mtF_zero] at this : t = M1.mtF 20 k ⟨#[]⟩)
        have hsz2 : ¬ 9223372036854775807 < 1 + t.size := by omega
        go_wp2_with fail
        go_ret
        exact ⟨by rw [HQ.out, ← HT.out]; rfl, hB⟩

def mcell (k : Int) (o : Nat) : Value := if o % 13 = 9 then .string (M1.mtext (k + o)) else .int .i64 (k + o)

theorem mcell_int (k : Int) (o : Nat) (h : ¬ o % 13 = 9) : mcell k o = .int .i64 (k + o) := if_neg h

theorem mcell_str (k : Int) (o : Nat) (h : o % 13 = 9) : mcell k o = .string (M1.mtext (k + o)) := if_pos h

set_option maxHeartbeats 8000000 in
set_option maxRecDepth 100000 in
theorem markU_some (g n cap : Nat) (f : Nat → Value) (k : Int) (w : World) (h : RowAt w g (n * 13) f) (hc : n ≤ cap) (hm : cap ≤ maxLen) (hn : n ≤ 1048576) (hk : 0 ≤ k) (hk2 : k ≤ 100000000) :
    Calls Tryz.prog 38 #[.slice (some ⟨g, 0, none⟩) n cap, .int .i64 k] w fun e w' => e = .returned (.int .i64 (k + 13 * n)) ∧ RowAt w' g (n * 13) (mcell k) ∧ Gr g w w' := by
  unfold maxLen at hm
  go_enter Tryz.func38, Tryz.ntmps38
  go_wp2_with fail
  go_loopw [1, 5] (fun q i wr => ∃ (p : Nat) (x : Int), p ≤ n ∧ i = .int .i64 p ∧ x = k + 13 * p ∧ q = .int .i64 x ∧ Gr g w wr ∧ ∃ f', RowAt wr g (n * 13) f' ∧ Hid (∀ o, o < p * 13 → f' o = mcell k o)) (fun _ i _ => n - (intOf i).toNat)
  case atStart => exact ⟨0, k, Nat.zero_le _, rfl, by omega, rfl, gr_refl _ _, f, h, fun o ho => absurd ho (by omega)⟩
  case round =>
    obtain ⟨p, x, hp, rfl, hx, rfl, hG, f', hrow, hall⟩ := hrel
    have hgl := hrow.lt
    by_cases hlt : p < n
    · have i0 : (0 : Int) ≤ (p : Int) := by omega
      have i1 : (p : Int) < (n : Int) := by omega
      have d0 := hrow.cell (o := p * 13) (by omega)
      have y0 := hrow.free (o := p * 13) (by omega)
      have d1 := hrow.cell (o := p * 13 + 1) (by omega)
      have y1 := hrow.free (o := p * 13 + 1) (by omega)
      have d2 := hrow.cell (o := p * 13 + 2) (by omega)
      have y2 := hrow.free (o := p * 13 + 2) (by omega)
      have d3 := hrow.cell (o := p * 13 + 3) (by omega)
      have y3 := hrow.free (o := p * 13 + 3) (by omega)
      have d4 := hrow.cell (o := p * 13 + 4) (by omega)
      have y4 := hrow.free (o := p * 13 + 4) (by omega)
      have d5 := hrow.cell (o := p * 13 + 5) (by omega)
      have y5 := hrow.free (o := p * 13 + 5) (by omega)
      have d6 := hrow.cell (o := p * 13 + 6) (by omega)
      have y6 := hrow.free (o := p * 13 + 6) (by omega)
      have d7 := hrow.cell (o := p * 13 + 7) (by omega)
      have y7 := hrow.free (o := p * 13 + 7) (by omega)
      have d8 := hrow.cell (o := p * 13 + 8) (by omega)
      have y8 := hrow.free (o := p * 13 + 8) (by omega)
      have d9 := hrow.cell (o := p * 13 + 9) (by omega)
      have y9 := hrow.free (o := p * 13 + 9) (by omega)
      have d10 := hrow.cell (o := p * 13 + 10) (by omega)
      have y10 := hrow.free (o := p * 13 + 10) (by omega)
      have d11 := hrow.cell (o := p * 13 + 11) (by omega)
      have y11 := hrow.free (o := p * 13 + 11) (by omega)
      have d12 := hrow.cell (o := p * 13 + 12) (by omega)
      have y12 := hrow.free (o := p * 13 + 12) (by omega)
      go_wp2_with fail
      have r9 := (((((((((hrow.set (o := p * 13) (by omega) (.int .i64 (k + 13 * (p : Int)))).set (o := p * 13 + 1) (by omega) (.int .i64 (k + 13 * (p : Int) + 1))).set (o := p * 13 + 2) (by omega) (.int .i64 (k + 13 * (p : Int) + 1 + 1))).set (o := p * 13 + 2 + 1) (by omega) (.int .i64 (k + 13 * (p : Int) + 1 + 1 + 1))).set (o := p * 13 + 2 + 2) (by omega) (.int .i64 (k + 13 * (p : Int) + 1 + 1 + 1 + 1))).set (o := p * 13 + 5) (by omega) (.int .i64 (k + 13 * (p : Int) + 1 + 1 + 1 + 1 + 1))).set (o := p * 13 + 6) (by omega) (.int .i64 (k + 13 * (p : Int) + 1 + 1 + 1 + 1 + 1 + 1))).set (o := p * 13 + 7) (by omega) (.int .i64 (k + 13 * (p : Int) + 1 + 1 + 1 + 1 + 1 + 1 + 1))).set (o := p * 13 + 7 + 1) (by omega) (.int .i64 (k + 13 * (p : Int) + 1 + 1 + 1 + 1 + 1 + 1 + 1 + 1)))
      have g9 := (gr_set (gr_set (gr_set (gr_set (gr_set (gr_set (gr_set (gr_set (gr_set hG (p * 13) (.int .i64 (k + 13 * (p : Int)))) (p * 13 + 1) (.int .i64 (k + 13 * (p : Int) + 1))) (p * 13 + 2) (.int .i64 (k + 13 * (p : Int) + 1 + 1))) (p * 13 + 2 + 1) (.int .i64 (k + 13 * (p : Int) + 1 + 1 + 1))) (p * 13 + 2 + 2) (.int .i64 (k + 13 * (p : Int) + 1 + 1 + 1 + 1))) (p * 13 + 5) (.int .i64 (k + 13 * (p : Int) + 1 + 1 + 1 + 1 + 1))) (p * 13 + 6) (.int .i64 (k + 13 * (p : Int) + 1 + 1 + 1 + 1 + 1 + 1))) (p * 13 + 7) (.int .i64 (k + 13 * (p : Int) + 1 + 1 + 1 + 1 + 1 + 1 + 1))) (p * 13 + 7 + 1) (.int .i64 (k + 13 * (p : Int) + 1 + 1 + 1 + 1 + 1 + 1 + 1 + 1)))
      refine (markText_any _ _ (by omega) (by omega)).mono ?_
      rintro e w2 ⟨rfl, hb2⟩
      obtain ⟨f2, hf2, r2⟩ : ∃ f2, f2 = _ ∧ RowAt w2 g (n * 13) f2 := ⟨_, rfl, r9.below hb2⟩
      have G2 := gr_trans g9 (gr_below hb2)
      clear r9 g9 hb2 d0 y0 d1 y1 d2 y2 d3 y3 d4 y4 d5 y5 d6 y6 d7 y7 d8 y8 d9 y9 d10 y10 d11 y11 d12 y12
      have d9 := r2.cell (o := p * 13 + 7 + 2) (by omega)
      have y9 := r2.free (o := p * 13 + 7 + 2) (by omega)
      have d10 := r2.cell (o := p * 13 + 7 + 3) (by omega)
      have y10 := r2.free (o := p * 13 + 7 + 3) (by omega)
      have d11 := r2.cell (o := p * 13 + 7 + 4) (by omega)
      have y11 := r2.free (o := p * 13 + 7 + 4) (by omega)
      have d12 := r2.cell (o := p * 13 + 12) (by omega)
      have y12 := r2.free (o := p * 13 + 12) (by omega)
      have hgl2 := r2.lt
      go_wp2_with fail
      have r4 := ((((r2.set (o := p * 13 + 7 + 2) (by omega) (.string (M1.mtext (k + 13 * (p : Int) + 1 + 1 + 1 + 1 + 1 + 1 + 1 + 1 + 1)))).set (o := p * 13 + 7 + 3) (by omega) (.int .i64 (k + 13 * (p : Int) + 1 + 1 + 1 + 1 + 1 + 1 + 1 + 1 + 1 + 1))).set (o := p * 13 + 7 + 4) (by omega) (.int .i64 (k + 13 * (p : Int) + 1 + 1 + 1 + 1 + 1 + 1 + 1 + 1 + 1 + 1 + 1))).set (o := p * 13 + 12) (by omega) (.int .i64 (k + 13 * (p : Int) + 1 + 1 + 1 + 1 + 1 + 1 + 1 + 1 + 1 + 1 + 1 + 1)))
      have g4 := (gr_set (gr_set (gr_set (gr_set G2 (p * 13 + 7 + 2) (.string (M1.mtext (k + 13 * (p : Int) + 1 + 1 + 1 + 1 + 1 + 1 + 1 + 1 + 1)))) (p * 13 + 7 + 3) (.int .i64 (k + 13 * (p : Int) + 1 + 1 + 1 + 1 + 1 + 1 + 1 + 1 + 1 + 1))) (p * 13 + 7 + 4) (.int .i64 (k + 13 * (p : Int) + 1 + 1 + 1 + 1 + 1 + 1 + 1 + 1 + 1 + 1 + 1))) (p * 13 + 12) (.int .i64 (k + 13 * (p : Int) + 1 + 1 + 1 + 1 + 1 + 1 + 1 + 1 + 1 + 1 + 1 + 1)))
      refine ⟨⟨p + 1, _, by omega, by go_num, by omega, rfl, g4, _, r4, fun o ho => ?_⟩, by simp [intOf]; omega⟩
      by_cases hlo : o < p * 13
      · subst hf2
        simp only [if_neg (show ¬ o = p * 13 + 12 by omega), if_neg (show ¬ o = p * 13 + 7 + 4 by omega), if_neg (show ¬ o = p * 13 + 7 + 3 by omega), if_neg (show ¬ o = p * 13 + 7 + 2 by omega), if_neg (show ¬ o = p * 13 + 7 + 1 by omega), if_neg (show ¬ o = p * 13 + 7 by omega), if_neg (show ¬ o = p * 13 + 6 by omega), if_neg (show ¬ o = p * 13 + 5 by omega), if_neg (show ¬ o = p * 13 + 2 + 2 by omega), if_neg (show ¬ o = p * 13 + 2 + 1 by omega), if_neg (show ¬ o = p * 13 + 2 by omega), if_neg (show ¬ o = p * 13 + 1 by omega), if_neg (show ¬ o = p * 13 by omega)]
        exact hall.out o hlo
      · obtain ⟨j, rfl⟩ : ∃ j, o = p * 13 + j := ⟨o - p * 13, by omega⟩
        subst hf2
        have hj : j = 0 ∨ j = 1 ∨ j = 2 ∨ j = 3 ∨ j = 4 ∨ j = 5 ∨ j = 6 ∨ j = 7 ∨ j = 8 ∨ j = 9 ∨ j = 10 ∨ j = 11 ∨ j = 12 := by omega
        rcases hj with rfl | rfl | rfl | rfl | rfl | rfl | rfl | rfl | rfl | rfl | rfl | rfl | rfl
        · show (if p * 13 + 0 = p * 13 + 12 then _ else _) = _
          simp only [if_neg (show ¬ p * 13 + 0 = p * 13 + 12 by omega), if_neg (show ¬ p * 13 + 0 = p * 13 + 7 + 4 by omega), if_neg (show ¬ p * 13 + 0 = p * 13 + 7 + 3 by omega), if_neg (show ¬ p * 13 + 0 = p * 13 + 7 + 2 by omega), if_neg (show ¬ p * 13 + 0 = p * 13 + 7 + 1 by omega), if_neg (show ¬ p * 13 + 0 = p * 13 + 7 by omega), if_neg (show ¬ p * 13 + 0 = p * 13 + 6 by omega), if_neg (show ¬ p * 13 + 0 = p * 13 + 5 by omega), if_neg (show ¬ p * 13 + 0 = p * 13 + 2 + 2 by omega), if_neg (show ¬ p * 13 + 0 = p * 13 + 2 + 1 by omega), if_neg (show ¬ p * 13 + 0 = p * 13 + 2 by omega), if_neg (show ¬ p * 13 + 0 = p * 13 + 1 by omega), if_pos (show p * 13 + 0 = p * 13 by omega)]
          rw [mcell_int k (p * 13 + 0) (by omega)]; exact congrArg (fun z => Value.int .i64 z) (by omega)
        · show (if p * 13 + 1 = p * 13 + 12 then _ else _) = _
          simp only [if_neg (show ¬ p * 13 + 1 = p * 13 + 12 by omega), if_neg (show ¬ p * 13 + 1 = p * 13 + 7 + 4 by omega), if_neg (show ¬ p * 13 + 1 = p * 13 + 7 + 3 by omega), if_neg (show ¬ p * 13 + 1 = p * 13 + 7 + 2 by omega), if_neg (show ¬ p * 13 + 1 = p * 13 + 7 + 1 by omega), if_neg (show ¬ p * 13 + 1 = p * 13 + 7 by omega), if_neg (show ¬ p * 13 + 1 = p * 13 + 6 by omega), if_neg (show ¬ p * 13 + 1 = p * 13 + 5 by omega), if_neg (show ¬ p * 13 + 1 = p * 13 + 2 + 2 by omega), if_neg (show ¬ p * 13 + 1 = p * 13 + 2 + 1 by omega), if_neg (show ¬ p * 13 + 1 = p * 13 + 2 by omega), if_pos (show p * 13 + 1 = p * 13 + 1 by omega)]
          rw [mcell_int k (p * 13 + 1) (by omega)]; exact congrArg (fun z => Value.int .i64 z) (by omega)
        · show (if p * 13 + 2 = p * 13 + 12 then _ else _) = _
          simp only [if_neg (show ¬ p * 13 + 2 = p * 13 + 12 by omega), if_neg (show ¬ p * 13 + 2 = p * 13 + 7 + 4 by omega), if_neg (show ¬ p * 13 + 2 = p * 13 + 7 + 3 by omega), if_neg (show ¬ p * 13 + 2 = p * 13 + 7 + 2 by omega), if_neg (show ¬ p * 13 + 2 = p * 13 + 7 + 1 by omega), if_neg (show ¬ p * 13 + 2 = p * 13 + 7 by omega), if_neg (show ¬ p * 13 + 2 = p * 13 + 6 by omega), if_neg (show ¬ p * 13 + 2 = p * 13 + 5 by omega), if_neg (show ¬ p * 13 + 2 = p * 13 + 2 + 2 by omega), if_neg (show ¬ p * 13 + 2 = p * 13 + 2 + 1 by omega), if_pos (show p * 13 + 2 = p * 13 + 2 by omega)]
          rw [mcell_int k (p * 13 + 2) (by omega)]; exact congrArg (fun z => Value.int .i64 z) (by omega)
        · show (if p * 13 + 3 = p * 13 + 12 then _ else _) = _
          simp only [if_neg (show ¬ p * 13 + 3 = p * 13 + 12 by omega), if_neg (show ¬ p * 13 + 3 = p * 13 + 7 + 4 by omega), if_neg (show ¬ p * 13 + 3 = p * 13 + 7 + 3 by omega), if_neg (show ¬ p * 13 + 3 = p * 13 + 7 + 2 by omega), if_neg (show ¬ p * 13 + 3 = p * 13 + 7 + 1 by omega), if_neg (show ¬ p * 13 + 3 = p * 13 + 7 by omega), if_neg (show ¬ p * 13 + 3 = p * 13 + 6 by omega), if_neg (show ¬ p * 13 + 3 = p * 13 + 5 by omega), if_neg (show ¬ p * 13 + 3 = p * 13 + 2 + 2 by omega), if_pos (show p * 13 + 3 = p * 13 + 2 + 1 by omega)]
          rw [mcell_int k (p * 13 + 3) (by omega)]; exact congrArg (fun z => Value.int .i64 z) (by omega)
        · show (if p * 13 + 4 = p * 13 + 12 then _ else _) = _
          simp only [if_neg (show ¬ p * 13 + 4 = p * 13 + 12 by omega), if_neg (show ¬ p * 13 + 4 = p * 13 + 7 + 4 by omega), if_neg (show ¬ p * 13 + 4 = p * 13 + 7 + 3 by omega), if_neg (show ¬ p * 13 + 4 = p * 13 + 7 + 2 by omega), if_neg (show ¬ p * 13 + 4 = p * 13 + 7 + 1 by omega), if_neg (show ¬ p * 13 + 4 = p * 13 + 7 by omega), if_neg (show ¬ p * 13 + 4 = p * 13 + 6 by omega), if_neg (show ¬ p * 13 + 4 = p * 13 + 5 by omega), if_pos (show p * 13 + 4 = p * 13 + 2 + 2 by omega)]
          rw [mcell_int k (p * 13 + 4) (by omega)]; exact congrArg (fun z => Value.int .i64 z) (by omega)
        · show (if p * 13 + 5 = p * 13 + 12 then _ else _) = _
          simp only [if_neg (show ¬ p * 13 + 5 = p * 13 + 12 by omega), if_neg (show ¬ p * 13 + 5 = p * 13 + 7 + 4 by omega), if_neg (show ¬ p * 13 + 5 = p * 13 + 7 + 3 by omega), if_neg (show ¬ p * 13 + 5 = p * 13 + 7 + 2 by omega), if_neg (show ¬ p * 13 + 5 = p * 13 + 7 + 1 by omega), if_neg (show ¬ p * 13 + 5 = p * 13 + 7 by omega), if_neg (show ¬ p * 13 + 5 = p * 13 + 6 by omega), if_pos (show p * 13 + 5 = p * 13 + 5 by omega)]
          rw [mcell_int k (p * 13 + 5) (by omega)]; exact congrArg (fun z => Value.int .i64 z) (by omega)
        · show (if p * 13 + 6 = p * 13 + 12 then _ else _) = _
          simp only [if_neg (show ¬ p * 13 + 6 = p * 13 + 12 by omega), if_neg (show ¬ p * 13 + 6 = p * 13 + 7 + 4 by omega), if_neg (show ¬ p * 13 + 6 = p * 13 + 7 + 3 by omega), if_neg (show ¬ p * 13 + 6 = p * 13 + 7 + 2 by omega), if_neg (show ¬ p * 13 + 6 = p * 13 + 7 + 1 by omega), if_neg (show ¬ p * 13 + 6 = p * 13 + 7 by omega), if_pos (show p * 13 + 6 = p * 13 + 6 by omega)]
          rw [mcell_int k (p * 13 + 6) (by omega)]; exact congrArg (fun z => Value.int .i64 z) (by omega)
        · show (if p * 13 + 7 = p * 13 + 12 then _ else _) = _
          simp only [if_neg (show ¬ p * 13 + 7 = p * 13 + 12 by omega), if_neg (show ¬ p * 13 + 7 = p * 13 + 7 + 4 by omega), if_neg (show ¬ p * 13 + 7 = p * 13 + 7 + 3 by omega), if_neg (show ¬ p * 13 + 7 = p * 13 + 7 + 2 by omega), if_neg (show ¬ p * 13 + 7 = p * 13 + 7 + 1 by omega), if_pos (show p * 13 + 7 = p * 13 + 7 by omega)]
          rw [mcell_int k (p * 13 + 7) (by omega)]; exact congrArg (fun z => Value.int .i64 z) (by omega)
        · show (if p * 13 + 8 = p * 13 + 12 then _ else _) = _
          simp only [if_neg (show ¬ p * 13 + 8 = p * 13 + 12 by omega), if_neg (show ¬ p * 13 + 8 = p * 13 + 7 + 4 by omega), if_neg (show ¬ p * 13 + 8 = p * 13 + 7 + 3 by omega), if_neg (show ¬ p * 13 + 8 = p * 13 + 7 + 2 by omega), if_pos (show p * 13 + 8 = p * 13 + 7 + 1 by omega)]
          rw [mcell_int k (p * 13 + 8) (by omega)]; exact congrArg (fun z => Value.int .i64 z) (by omega)
        · show (if p * 13 + 9 = p * 13 + 12 then _ else _) = _
          simp only [if_neg (show ¬ p * 13 + 9 = p * 13 + 12 by omega), if_neg (show ¬ p * 13 + 9 = p * 13 + 7 + 4 by omega), if_neg (show ¬ p * 13 + 9 = p * 13 + 7 + 3 by omega), if_pos (show p * 13 + 9 = p * 13 + 7 + 2 by omega)]
          rw [mcell_str k (p * 13 + 9) (by omega)]; exact congrArg (fun z => Value.string (M1.mtext z)) (by omega)
        · show (if p * 13 + 10 = p * 13 + 12 then _ else _) = _
          simp only [if_neg (show ¬ p * 13 + 10 = p * 13 + 12 by omega), if_neg (show ¬ p * 13 + 10 = p * 13 + 7 + 4 by omega), if_pos (show p * 13 + 10 = p * 13 + 7 + 3 by omega)]
          rw [mcell_int k (p * 13 + 10) (by omega)]; exact congrArg (fun z => Value.int .i64 z) (by omega)
        · show (if p * 13 + 11 = p * 13 + 12 then _ else _) = _
          simp only [if_neg (show ¬ p * 13 + 11 = p * 13 + 12 by omega), if_pos (show p * 13 + 11 = p * 13 + 7 + 4 by omega)]
          rw [mcell_int k (p * 13 + 11) (by omega)]; exact congrArg (fun z => Value.int .i64 z) (by omega)
        · show (if p * 13 + 12 = p * 13 + 12 then _ else _) = _
          simp only [if_true, if_pos (show p * 13 + 12 = p * 13 + 12 by omega)]
          rw [mcell_int k (p * 13 + 12) (by omega)]; exact congrArg (fun z => Value.int .i64 z) (by omega)
    · have hpn : p = n := by omega
      go_wp2_with fail
      go_ret
      exact ⟨by rw [hx, hpn]; rfl, hrow.same (fun o ho => hall.out o (by omega)), hG⟩

end Go.Proofs.YtccendmoeelniaaGreatDoor
