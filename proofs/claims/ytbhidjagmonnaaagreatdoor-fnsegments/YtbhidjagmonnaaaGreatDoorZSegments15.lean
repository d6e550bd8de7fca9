/-
  Texts of one proof, joined: Rd2.
-/
import Derived.Test.YtbhidjagmonnaaaGreatDoorZSegments10
import Derived.Test.YtbhidjagmonnaaaGreatDoorZSegments14
import Derived.Lib.Split
namespace M1
open Go
theorem cut_at {s : ByteArray} {k : Nat} (hk : k < s.size) (h : s[k].toNat = 32) : s.data.toList = s.data.toList.take k ++ 32 :: s.data.toList.drop (k + 1) := by
  have hc : s[k] = 32 := by
    have : s[k] = UInt8.ofNat s[k].toNat := by simp
    rw [this, h]; rfl
  have hl : k < s.data.toList.length := by rw [len_list]; exact hk
  have e : s.data.toList[k] = 32 := by
    have := get_list hk
    rw [List.getElem?_eq_getElem hl] at this
    exact (Option.some.inj this).trans hc
  have h2 := List.drop_eq_getElem_cons hl
  rw [e] at h2
  rw [← h2, List.take_append_drop]
theorem no32_take {s : ByteArray} {k : Nat} (hk : k ≤ s.size) (h : ∀ j (hj : j < s.size), j < k → ¬ s[j].toNat = 32) : ∀ c ∈ s.data.toList.take k, ¬ c = 32 := fun c hc e => by
  obtain ⟨j, hj, ej⟩ := List.getElem_of_mem hc
  rw [List.length_take, len_list] at hj
  have hj2 : j < s.size := by omega
  rw [List.getElem_take] at ej
  have := get_list hj2
  rw [List.getElem?_eq_getElem (by rw [len_list]; exact hj2)] at this
  injection this with e2
  refine h j hj2 (by omega) ?_
  rw [← e2, ej, e]; rfl
/-- What is cut off at the first blank, and the rest. -/
def Cut (s : ByteArray) (e : Go.Ending) : Prop := (∃ a b, s.data.toList = a ++ 32 :: b ∧ (∀ c ∈ a, ¬ c = 32) ∧ e = .returned (.tuple #[.string (mkB a), .string (mkB b), .bool true])) ∨ ((∀ c ∈ s.data.toList, ¬ c = 32) ∧ e = .returned (.tuple #[.string s, .string ByteArray.empty, .bool false]))
end M1
namespace Go.Proofs.YtbhidjagmonnaaaGreatDoor
open Go.ChangeShapes Go.WideShapes Go.ChangeAt Go.RowKit
set_option linter.unusedSimpArgs false
set_option linter.unusedVariables false

theorem bel_drewN2 {B : Nat} {a w : World} (h : Below B a w) (n : Nat) : Below B a (w.drewN n) := ⟨h.os, h.tape, h.output, h.size, h.block⟩
theorem ext_take (s : ByteArray) (k : Nat) : s.extract 0 k = M1.mkB (s.data.toList.take k) := by
  rw [← M1.mkB_of (s.extract 0 k), Lib.extract_from_zero]
theorem ext_drop (s : ByteArray) (k : Nat) : s.extract k s.size = M1.mkB (s.data.toList.drop k) := by
  rw [← M1.mkB_of (s.extract k s.size), Lib.extract_to_end]

set_option maxHeartbeats 4000000 in
theorem l1Cut_any (s : ByteArray) (w : World) (hs : s.size ≤ maxLen) :
    Calls Tryz.prog 85 #[.string s, .int .u8 32] w fun e w' => M1.Cut s e ∧ Below w.heap.size w w' := by
  unfold maxLen at hs
  go_enter Tryz.func85, Tryz.ntmps85
  go_wp2
  go_loopw [7] (fun iv wr => ∃ k : Nat, k ≤ s.size ∧ iv = .int .i64 k ∧ Hid (∀ j (hj : j < s.size), j < k → ¬ s[j].toNat = 32) ∧ Below w.heap.size w wr) (fun iv _ => s.size - (intOf iv).toNat)
  case atStart => exact ⟨0, Nat.zero_le _, rfl, (fun j _ hj => absurd hj (Nat.not_lt_zero _)), Below.refl _ _⟩
  case round =>
    obtain ⟨k, hk, rfl, hall, hB⟩ := hrel
    by_cases hlt : k < s.size
    · have k0 : (0 : Int) ≤ (k : Int) := by omega
      have k1 : (k : Int) < (s.size : Int) := by omega
      by_cases hc : s[k].toNat = 32
      · have HC := M1.cut_at hlt hc
        have HA : Hid (s.data.toList = s.data.toList.take k ++ 32 :: s.data.toList.drop (k + 1)) := HC
        have HN : Hid (∀ c ∈ s.data.toList.take k, ¬ c = 32) := M1.no32_take hk hall.out
        have hcb : ((s[k].toNat : Int) == 32) = true := by simp; omega
        have k2 : (k : Int) + 1 ≤ (s.size : Int) := by omega
        have e1 := ext_take s k
        have e2 := ext_drop s (k + 1)
        clear HC hall hc
        go_wp2
        go_quiet (fail)
        go_wp2
        refine bodyPost_ret (v := .tuple #[.string (M1.mkB (s.data.toList.take k)), .string (M1.mkB (s.data.toList.drop (k + 1))), .bool true]) (by simp [results, Tryz.results85, go_sem]) rfl ?_
        exact ⟨Or.inl ⟨_, _, HA.out, HN.out, rfl⟩, bel_drewN2 hB _⟩
      · have HQ : Hid (∀ j (hj : j < s.size), j < k + 1 → ¬ s[j].toNat = 32) := fun j hj hjk => by
          by_cases e : j = k
          · subst e; exact hc
          · exact hall.out j hj (by omega)
        have hcb : ((s[k].toNat : Int) == 32) = false := by simp; omega
        clear hall hc
        go_wp2
        exact ⟨⟨k + 1, by omega, by go_num, HQ, hB⟩, by simp [intOf]; omega⟩
    · have HN : Hid (∀ c ∈ s.data.toList, ¬ c = 32) := (by
        have := M1.no32_take hk hall.out
        rw [List.take_of_length_le (by rw [M1.len_list]; omega)] at this
        exact this : ∀ c ∈ s.data.toList, _)
      clear hall
      go_wp2
      refine bodyPost_ret (v := .tuple #[.string s, .string ByteArray.empty, .bool false]) (by simp [results, Tryz.results85, go_sem]; rfl) rfl ?_
      exact ⟨Or.inr ⟨HN.out, rfl⟩, hB⟩

def wB (l : List UInt8) : List ByteArray := (M1.spl l).map M1.mkB
theorem ownsS_empty (w : World) (e : TypeId) : (w.alloc (.cells #[] e)).ownsRow w.heap.size e 1 (.slice (some ⟨w.heap.size, 0, none⟩) 0 0) 0 (sV []) := by
  refine ⟨rfl, Or.inr ⟨w.heap.size, 0, #[], rfl, Nat.le_refl _, ?_, Nat.le_refl _, by unfold maxLen; omega, rfl, rfl⟩⟩
  show (w.heap.push (.cells #[] e))[w.heap.size]? = _
  simp
theorem wB_len (l : List UInt8) : (wB l).length ≤ l.length + 1 := by
  unfold wB
  rw [List.length_map]
  induction l with
  | nil => simp [M1.spl]
  | cons c t ih =>
    rw [M1.spl_cons]
    split
    · simp only [List.length_cons]; omega
    · split
      · simp
      · rename_i h
        rw [h] at ih
        simp only [List.length_cons] at ih ⊢
        omega

set_option maxHeartbeats 4000000 in
set_option maxRecDepth 100000 in
theorem l2Words_any (s : ByteArray) (w : World) (hs : s.size ≤ 200) :
    Calls Tryz.prog 62 #[.string s] w fun e w' => (∃ (g c n : Nat), e = .returned (.slice (some ⟨g, 0, none⟩) n c) ∧ Hid ((wB s.data.toList).length = n) ∧ w'.ownsRow w.heap.size 9 1 (.slice (some ⟨g, 0, none⟩) n c) n (sV (wB s.data.toList))) ∧ Below w.heap.size w w' := by
  have own0 := ownsS_empty w 9
  have hA : Below w.heap.size w (w.alloc (.cells #[] 9)) := (Below.refl _ _).alloc (Nat.le_refl _) _
  go_enter Tryz.func62, Tryz.ntmps62
  go_wp2_with fail
  go_loopw [0, 3, 4] (fun sv ov mv wr => ∃ (t : ByteArray) (g c n : Nat) (xs : List ByteArray) (m : Bool), sv = .string t ∧ ov = .slice (some ⟨g, 0, none⟩) n c ∧ mv = .bool m ∧ Hid (xs.length = n) ∧ (m = true → n + t.size ≤ 200) ∧ n ≤ 201 ∧ t.size ≤ 200 ∧ Hid (wB s.data.toList = if m = true then xs ++ wB t.data.toList else xs) ∧ wr.ownsRow w.heap.size 9 1 (.slice (some ⟨g, 0, none⟩) n c) n (sV xs) ∧ Below w.heap.size w wr) (fun sv _ mv _ => match sv, mv with | .string t, .bool true => t.size + 1 | _, _ => 0)
  case atStart => exact ⟨s, _, _, 0, [], true, rfl, rfl, rfl, rfl, (fun _ => by omega), by omega, hs, (by simp : _ = _), own0, hA⟩
  case round =>
    obtain ⟨t, g, c, n, xs, m, rfl, rfl, rfl, hn, hnt, hn1, ht, hw, own, hB⟩ := hrel
    have hsB := hB.size
    cases m with
    | false =>
      have HW : Hid (wB s.data.toList = xs) := (by have := hw.out; simpa using this : _ = _)
      clear hw
      go_wp2_with fail
      go_ret
      exact ⟨⟨g, c, n, rfl, (by rw [HW.out]; exact hn.out : _ = _), by rw [HW.out]; exact own⟩, hB⟩
    | true =>
      have hnt := hnt rfl
      have HW : Hid (wB s.data.toList = xs ++ wB t.data.toList) := (by have := hw.out; simpa using this : _ = _)
      clear hw
      go_wp2_with fail
      refine (l1Cut_any t _ (by unfold maxLen; omega)).mono ?_
      rintro e w1 ⟨hcut, hb1⟩
      have hB1 := hB.trans (hb1.mono hB.size)
      have own1 := owns_below own hb1
      have hs1 := hb1.size
      rcases hcut with ⟨a, b, hab, hna, rfl⟩ | ⟨hno, rfl⟩
      · have hl : t.size = a.length + (b.length + 1) := by rw [← M1.len_list, hab, List.length_append, List.length_cons]
        have HW2 : Hid (wB s.data.toList = (xs ++ [M1.mkB a]) ++ wB (M1.mkB b).data.toList) := (by rw [HW.out, hab]; unfold wB; rw [M1.spl_app b hna, M1.mkB_toList]; simp : _ = _)
        have hbs := M1.mkB_size b
        have hA2 : Below w1.heap.size w1 (w1.alloc (.cells #[.string (M1.mkB a)] 9)) := (Below.refl _ _).alloc (Nat.le_refl _) _
        have own2 := owns_below own1 hA2
        have hc2 : (w1.alloc (.cells #[.string (M1.mkB a)] 9)).cell? ⟨w1.heap.size, 0, none⟩ = some (.string (M1.mkB a)) := by simp
        have hn2 : Hid ((xs ++ [M1.mkB a]).length = n + 1) := (by rw [List.length_append, hn.out]; rfl : _ = _)
        clear hab hna HW
        go_wp2_with (at_builtin; refine wpList_appS (by rfl) _ _ rfl w.heap.size _ _ n xs rfl own2 w1.heap.size 1 _ rfl hc2 (by omega) (by simp; omega) ?_; intro g4 c4 w4 ow4 gv4)
        have hB4 := hB1.trans ((hA2.mono (by omega)).trans (gv4.to_below (B := w.heap.size) (by simp; omega) (owns_base own2)))
        refine ⟨⟨M1.mkB b, g4, c4, n + 1, xs ++ [M1.mkB a], true, rfl, rfl, rfl, hn2, (fun _ => by omega), by omega, by omega, (by rw [HW2.out]; rfl : _ = _), ow4, hB4⟩, ?_⟩
        show (M1.mkB b).size + 1 < t.size + 1
        omega
      · have HW2 : Hid (wB s.data.toList = xs ++ [t]) := (by rw [HW.out]; unfold wB; rw [M1.spl_word hno]; simp [M1.mkB_of] : _ = _)
        have hA2 : Below w1.heap.size w1 (w1.alloc (.cells #[.string t] 9)) := (Below.refl _ _).alloc (Nat.le_refl _) _
        have own2 := owns_below own1 hA2
        have hc2 : (w1.alloc (.cells #[.string t] 9)).cell? ⟨w1.heap.size, 0, none⟩ = some (.string t) := by simp
        have hn2 : Hid ((xs ++ [t]).length = n + 1) := (by rw [List.length_append, hn.out]; rfl : _ = _)
        clear hno HW
        go_wp2_with (at_builtin; refine wpList_appS (by rfl) _ _ rfl w.heap.size _ _ n xs rfl own2 w1.heap.size 1 _ rfl hc2 (by omega) (by simp; omega) ?_; intro g4 c4 w4 ow4 gv4)
        have hB4 := hB1.trans ((hA2.mono (by omega)).trans (gv4.to_below (B := w.heap.size) (by simp; omega) (owns_base own2)))
        refine ⟨⟨ByteArray.empty, g4, c4, n + 1, xs ++ [t], false, rfl, rfl, rfl, hn2, (fun e => by cases e), by omega, by simp, (by rw [HW2.out]; rfl : _ = _), ow4, hB4⟩, ?_⟩
        show 0 < t.size + 1
        omega

/-- A word's number; -1: there is none. -/
def numW (xs : List ByteArray) (i : Nat) : Int := if i < xs.length then (if M1.numB (xs.getD i ByteArray.empty).data.toList = true then (M1.valL (xs.getD i ByteArray.empty).data.toList : Int) else -1) else -1
/-- Words in a row. -/
structure WdsIn (w : World) (g n c : Nat) (xs : List ByteArray) : Prop where
  len : xs.length = n
  cap : n ≤ c
  most : c ≤ maxLen
  lt : g < w.heap.size
  cell : ∀ i, i < n → w.cell? ⟨g, i, none⟩ = some (.string (xs.getD i ByteArray.empty))
theorem WdsIn.below {w w' : World} {g n c : Nat} {xs : List ByteArray} (h : WdsIn w g n c xs) (hb : Below w.heap.size w w') : WdsIn w' g n c xs :=
  ⟨h.len, h.cap, h.most, Nat.lt_of_lt_of_le h.lt hb.size, fun i hi => (hb.cell (p := ⟨g, i, none⟩) h.lt).trans (h.cell i hi)⟩

set_option maxHeartbeats 4000000 in
theorem l2Num_any (g n c i : Nat) (xs : List ByteArray) (w : World) (h : WdsIn w g n c xs) (hi : i ≤ 100) (hl : Hid (∀ x ∈ xs, x.size ≤ maxLen)) :
    Calls Tryz.prog 63 #[.slice (some ⟨g, 0, none⟩) n c, .int .i64 (i : Int)] w fun e w' => e = .returned (.int .i64 (numW xs i)) ∧ w' = w := by
  have hc := h.cap
  have hm := h.most
  have hln : Hid (xs.length = n) := h.len
  unfold maxLen at hm
  by_cases hlt : i < n
  · have d0 := h.cell i hlt
    have hgl := h.lt
    have hx : Hid ((xs.getD i ByteArray.empty).size ≤ maxLen) := hl.out _ (by rw [show xs.getD i ByteArray.empty = xs[i]'(by rw [hln.out]; exact hlt) by simp [List.getD, show i < xs.length by rw [hln.out]; exact hlt]]; exact List.getElem_mem _)
    have HV : Hid (numW xs i = if M1.numB (xs.getD i ByteArray.empty).data.toList = true then (M1.valL (xs.getD i ByteArray.empty).data.toList : Int) else -1) := (by unfold numW; rw [if_pos (by rw [hln.out]; exact hlt)] : _ = _)
    obtain ⟨x, hxe⟩ : ∃ x, Hid (xs.getD i ByteArray.empty = x) := ⟨_, rfl⟩
    rw [hxe.out] at d0 hx HV
    have i0 : (0 : Int) ≤ (i : Int) := by omega
    have i1 : (i : Int) < (n : Int) := by omega
    obtain ⟨b, hb⟩ : ∃ b, Hid (M1.numB x.data.toList = b) := ⟨_, rfl⟩
    go_enter Tryz.func63, Tryz.ntmps63
    go_wp2_with fail
    refine (l1Int_any x _ hx.out).mono ?_
    rw [hb.out]
    rintro e w1 ⟨rfl, rfl⟩
    cases b with
    | false =>
      have HN : Hid (numW xs i = -1) := (by rw [HV.out, hb.out]; rfl : _ = _)
      go_wp2_with fail
      go_ret
      exact ⟨by rw [HN.out]; rfl, rfl⟩
    | true =>
      have HN : Hid (numW xs i = M1.numV x) := (by rw [HV.out]; unfold M1.numV; rw [hb.out]; rfl : _ = _)
      go_wp2_with fail
      go_ret
      exact ⟨by rw [HN.out]; rfl, rfl⟩
  · have HN : Hid (numW xs i = -1) := (by unfold numW; rw [if_neg (by rw [hln.out]; exact hlt)] : _ = _)
    go_enter Tryz.func63, Tryz.ntmps63
    go_wp2_with fail
    go_ret
    exact ⟨by rw [HN.out]; rfl, rfl⟩
end Go.Proofs.YtbhidjagmonnaaaGreatDoor
