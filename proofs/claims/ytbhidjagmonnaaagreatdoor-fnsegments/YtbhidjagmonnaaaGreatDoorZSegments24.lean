/-
  Texts of one proof, joined: Rd6.
-/
import Derived.Test.YtbhidjagmonnaaaGreatDoorZSegments23
import Derived.BigQuiet
namespace Go.Proofs.YtbhidjagmonnaaaGreatDoor
open Go.ChangeShapes Go.WideShapes Go.ChangeAt Go.RowKit Go.Shelf
set_option linter.unusedSimpArgs false
set_option linter.unusedVariables false

/-- The words that are left, where such a row is. -/
structure RestIn (w : World) (ra : Option Addr) (n c : Nat) (xs : List ByteArray) : Prop where
  len : xs.length = n
  cap : n ≤ c
  most : c ≤ maxLen
  lies : n = 0 ∨ ∃ g off, ra = some ⟨g, off, none⟩ ∧ WdsAt w g off n c xs
def chV (h : M1.Chg) : Value := if h.k = 1 then .iface 98 (.agg #[.int .i64 h.id, .int .i64 h.pa, .string h.s, .int .i64 h.st, .int .i64 h.en]) else if h.k = 2 then .iface 100 (.agg #[]) else .iface 102 (.agg #[.int .i64 h.lv])
def ChW (e : Ending) (r : Option M1.Chg) : Prop := match r with
  | none => ∃ v, e = .returned (.tuple #[v, .bool false])
  | some h => e = .returned (.tuple #[chV h, .bool true])
def tl (xs : List ByteArray) : List (List UInt8) := xs.map fun x => x.data.toList

theorem rest_no {x0 : ByteArray} {xs : List ByteArray} (h1 : ¬ (x0.data.toList = M1.wSpan ∧ xs.length = 5)) (h2 : ¬ (x0.data.toList = M1.wKeep ∧ xs.length = 0)) (h3 : ¬ (x0.data.toList = M1.wLife ∧ xs.length = 1)) : M1.rdC x0.data.toList (tl xs) = none := by
  unfold M1.rdC tl
  rw [List.length_map, if_neg h1, if_neg h2, if_neg h3]
theorem tlB {x : ByteArray} {l : List UInt8} {b : Bool} (h : (x.toList == l) = b) : (x.data.toList = l) ↔ b = true := by
  rw [← h, beq_iff_eq, Go.ByteArray.toList_eq]

set_option maxHeartbeats 8000000 in
set_option maxRecDepth 100000 in
theorem readChange_any (x0 : ByteArray) (ra : Option Addr) (n c : Nat) (xs : List ByteArray) (w : World) (h : RestIn w ra n c xs) (hl : Hid (∀ x ∈ xs, x.size ≤ 1048576)) :
    Calls Tryz.prog 98 #[.string x0, .slice ra n c] w fun e w' => ChW e (M1.rdC x0.data.toList (tl xs)) ∧ Below w.heap.size w w' := by
  have hcap := h.cap
  have hmost := h.most
  have hln : Hid (xs.length = n) := h.len
  unfold maxLen at hmost
  by_cases e1 : (x0.toList == [115, 112, 97, 110]) = true
  · have x1 : x0.data.toList = M1.wSpan := (tlB e1).2 rfl
    have e2 : (x0.toList == [107, 101, 101, 112]) = false := by
      rw [Bool.eq_false_iff]; intro hh; have := (tlB hh).2 rfl; rw [x1] at this; exact absurd this (by decide)
    have e3 : (x0.toList == [108, 105, 102, 101]) = false := by
      rw [Bool.eq_false_iff]; intro hh; have := (tlB hh).2 rfl; rw [x1] at this; exact absurd this (by decide)
    by_cases hn : n = 5
    · subst hn
      rcases h.lies with h0 | ⟨g, off, rfl, wd⟩
      · omega
      have HR : Hid (M1.rdC x0.data.toList (tl xs) = match M1.rdNs (tl (xs.take 4)) with | none => none | some m => some ⟨1, m.getD 0 0, m.getD 1 0, xs.getD 4 ByteArray.empty, m.getD 2 0, m.getD 3 0, 0⟩) := (by
        unfold M1.rdC
        rw [if_pos ⟨x1, by unfold tl; rw [List.length_map]; exact hln.out⟩]
        have q1 : (tl xs).take 4 = tl (xs.take 4) := by unfold tl; rw [List.map_take]
        have q2 : M1.mkB ((tl xs).getD 4 []) = xs.getD 4 ByteArray.empty := by
          have h4 : 4 < xs.length := by rw [hln.out]; omega
          unfold tl
          simp [List.getD, h4, M1.mkB_of]
        rw [q1, q2]
        cases M1.rdNs (tl (xs.take 4)) <;> rfl : _ = _)
      have wd4 : WdsAt w g off 4 c (xs.take 4) := ⟨by rw [List.length_take, hln.out]; rfl, by omega, h.most, wd.lt, fun i hi => by
        rw [wd.cell i (by omega)]
        have : i < xs.length := by rw [hln.out]; omega
        simp [List.getD, hi, this]⟩
      have hl4 : Hid (∀ x ∈ xs.take 4, x.size ≤ maxLen) := fun x hx => by have := hl.out x (List.mem_of_mem_take hx); unfold maxLen; omega
      have hx4 : Hid ((xs.getD 4 ByteArray.empty).size ≤ 1048576) := (by
        have h4 : 4 < xs.length := by rw [hln.out]; omega
        exact hl.out (xs.getD 4 ByteArray.empty) (by rw [show xs.getD 4 ByteArray.empty = xs[4] by simp [List.getD, h4]]; exact List.getElem_mem _) : _ ≤ _)
      clear x1
      go_enter Tryz.func98, Tryz.ntmps98
      go_wp2_with fail
      refine (readDecimals_any g off 4 c (xs.take 4) _ wd4 (by omega) hl4).mono ?_
      rintro e w1 ⟨hr, hb1⟩
      unfold RdsW at hr
      change match M1.rdNs (tl (xs.take 4)) with | none => _ | some ns => _ at hr
      cases hq : M1.rdNs (tl (xs.take 4)) with
      | none =>
        rw [hq] at hr HR
        simp only at hr
        subst hr
        go_wp2_with fail
        refine bodyPost_ret (v := .tuple #[.nilIface, .bool false]) (by simp [results, Tryz.results98, go_sem]) rfl ?_
        exact ⟨by rw [HR.out]; exact ⟨_, rfl⟩, hb1⟩
      | some m =>
        rw [hq] at hr HR
        obtain ⟨av, cap, rfl, mi⟩ := hr
        have hm4 : Hid (m.length = 4) := (by have := (M1.rdNs_some hq).2; rw [this]; unfold tl; rw [List.length_map, List.length_take, hln.out]; rfl : _ = _)
        rw [hm4.out] at mi ⊢
        clear hq
        have wd1 := wd.below hb1
        have d4 := wd1.cell 4 (by omega)
        have hgl := wd1.lt
        obtain ⟨t, ht⟩ : ∃ t, Hid (xs.getD 4 ByteArray.empty = t) := ⟨_, rfl⟩
        rw [ht.out] at d4 hx4 HR
        go_wp2_with fail
        refine (clone_any t _ hx4.out).mono ?_
        rintro e w2 ⟨rfl, hb2⟩
        have hB2 := hb1.trans (hb2.mono hb1.size)
        have mi2 := mi.below hb2
        have mc := mi2.1
        have mm := mi2.2.1
        unfold maxLen at mm
        rcases mi2.2.2 with ⟨h0, _⟩ | ⟨gm, rfl, _, _, rm⟩
        · omega
        have m0 : w2.cell? ⟨gm, 0, none⟩ = some (.int .i64 (m.getD 0 0)) := rm.cell (o := 0) (by omega)
        have m1 : w2.cell? ⟨gm, 1, none⟩ = some (.int .i64 (m.getD 1 0)) := rm.cell (o := 1) (by omega)
        have m2 : w2.cell? ⟨gm, 2, none⟩ = some (.int .i64 (m.getD 2 0)) := rm.cell (o := 2) (by omega)
        have m3 : w2.cell? ⟨gm, 3, none⟩ = some (.int .i64 (m.getD 3 0)) := rm.cell (o := 3) (by omega)
        have hgm := rm.lt
        obtain ⟨a0, ha0⟩ : ∃ a, Hid (m.getD 0 0 = a) := ⟨_, rfl⟩
        obtain ⟨a1, ha1⟩ : ∃ a, Hid (m.getD 1 0 = a) := ⟨_, rfl⟩
        obtain ⟨a2, ha2⟩ : ∃ a, Hid (m.getD 2 0 = a) := ⟨_, rfl⟩
        obtain ⟨a3, ha3⟩ : ∃ a, Hid (m.getD 3 0 = a) := ⟨_, rfl⟩
        rw [ha0.out] at m0 HR
        rw [ha1.out] at m1 HR
        rw [ha2.out] at m2 HR
        rw [ha3.out] at m3 HR
        go_wp2_with fail
        go_quiet (fail)
        go_wp2_with fail
        refine bodyPost_ret (v := .tuple #[.iface 98 (.agg #[.int .i64 a0, .int .i64 a1, .string t, .int .i64 a2, .int .i64 a3]), .bool true]) (by simp [results, Tryz.results98, go_sem]) rfl ?_
        exact ⟨by rw [HR.out]; rfl, bel_drewN2 hB2 _⟩
    · have HR : Hid (M1.rdC x0.data.toList (tl xs) = none) := rest_no (fun ⟨_, q⟩ => hn (by rw [← hln.out]; exact q)) (fun ⟨q, _⟩ => absurd (x1.symm.trans q) (by decide)) (fun ⟨q, _⟩ => absurd (x1.symm.trans q) (by decide))
      have hnb : ((n : Int) == 5) = false := by simp; omega
      clear x1
      go_enter Tryz.func98, Tryz.ntmps98
      go_wp2_with fail
      refine bodyPost_ret (v := .tuple #[.nilIface, .bool false]) (by simp [results, Tryz.results98, go_sem]) rfl ?_
      exact ⟨by rw [HR.out]; exact ⟨_, rfl⟩, Below.refl _ _⟩
  have e1 : (x0.toList == [115, 112, 97, 110]) = false := by simpa using e1
  have y1 : ¬ x0.data.toList = M1.wSpan := fun q => by have := (tlB e1).1 q; cases this
  by_cases e2 : (x0.toList == [107, 101, 101, 112]) = true
  · have x1 : x0.data.toList = M1.wKeep := (tlB e2).2 rfl
    have e3 : (x0.toList == [108, 105, 102, 101]) = false := by
      rw [Bool.eq_false_iff]; intro hh; have := (tlB hh).2 rfl; rw [x1] at this; exact absurd this (by decide)
    by_cases hn : n = 0
    · have HR : Hid (M1.rdC x0.data.toList (tl xs) = some ⟨2, 0, 0, ByteArray.empty, 0, 0, 0⟩) := (by unfold M1.rdC; rw [if_neg (fun q => y1 q.1), if_pos ⟨x1, by unfold tl; rw [List.length_map, hln.out]; exact hn⟩] : _ = _)
      subst hn
      clear x1 y1
      go_enter Tryz.func98, Tryz.ntmps98
      go_wp2_with fail
      refine bodyPost_ret (v := .tuple #[.iface 100 (.agg #[]), .bool true]) (by simp [results, Tryz.results98, go_sem]) rfl ?_
      exact ⟨by rw [HR.out]; rfl, Below.refl _ _⟩
    · have HR : Hid (M1.rdC x0.data.toList (tl xs) = none) := rest_no (fun q => y1 q.1) (fun ⟨_, q⟩ => hn (by rw [← hln.out]; exact q)) (fun ⟨q, _⟩ => absurd (x1.symm.trans q) (by decide))
      have hnb : ((n : Int) == 0) = false := by simp; omega
      clear x1 y1
      go_enter Tryz.func98, Tryz.ntmps98
      go_wp2_with fail
      refine bodyPost_ret (v := .tuple #[.nilIface, .bool false]) (by simp [results, Tryz.results98, go_sem]) rfl ?_
      exact ⟨by rw [HR.out]; exact ⟨_, rfl⟩, Below.refl _ _⟩
  have e2 : (x0.toList == [107, 101, 101, 112]) = false := by simpa using e2
  have y2 : ¬ x0.data.toList = M1.wKeep := fun q => by have := (tlB e2).1 q; cases this
  by_cases e3 : (x0.toList == [108, 105, 102, 101]) = true
  · have x1 : x0.data.toList = M1.wLife := (tlB e3).2 rfl
    by_cases hn : n = 1
    · subst hn
      rcases h.lies with h0 | ⟨g, off, rfl, wd⟩
      · omega
      have HR : Hid (M1.rdC x0.data.toList (tl xs) = match M1.rdN (xs.getD 0 ByteArray.empty).data.toList with | none => none | some m => some ⟨3, 0, 0, ByteArray.empty, 0, 0, m⟩) := (by
        unfold M1.rdC
        rw [if_neg (fun q => y1 q.1), if_neg (fun q => y2 q.1), if_pos ⟨x1, by unfold tl; rw [List.length_map]; exact hln.out⟩]
        have q2 : (tl xs).getD 0 [] = (xs.getD 0 ByteArray.empty).data.toList := by
          have h4 : 0 < xs.length := by rw [hln.out]; omega
          unfold tl
          simp [List.getD, h4]
        rw [q2]
        cases M1.rdN (xs.getD 0 ByteArray.empty).data.toList <;> rfl : _ = _)
      have d0 := wd.cell 0 (by omega)
      rw [Nat.add_zero] at d0
      have hgl := wd.lt
      have hx0 : Hid ((xs.getD 0 ByteArray.empty).size ≤ maxLen) := (by
        have h4 : 0 < xs.length := by rw [hln.out]; omega
        have := hl.out (xs.getD 0 ByteArray.empty) (by rw [show xs.getD 0 ByteArray.empty = xs[0] by simp [List.getD, h4]]; exact List.getElem_mem _)
        unfold maxLen; omega : _ ≤ _)
      obtain ⟨t, ht⟩ : ∃ t, Hid (xs.getD 0 ByteArray.empty = t) := ⟨_, rfl⟩
      rw [ht.out] at d0 hx0 HR
      obtain ⟨b, hb⟩ : ∃ b, Hid (M1.numB t.data.toList = b) := ⟨_, rfl⟩
      clear x1 y1 y2
      go_enter Tryz.func98, Tryz.ntmps98
      go_wp2_with fail
      refine (readDecimal_any t _ hx0.out).mono ?_
      rw [hb.out]
      rintro e w1 ⟨rfl, rfl⟩
      go_wp2_with fail
      refine bodyPost_ret (v := .tuple #[.iface 102 (.agg #[.int .i64 (M1.numV t)]), .bool b]) (by simp [results, Tryz.results98, go_sem]) rfl ?_
      refine ⟨?_, Below.refl _ _⟩
      rw [HR.out]
      unfold M1.rdN
      cases b with
      | false => rw [hb.out]; exact ⟨_, rfl⟩
      | true =>
        have q : M1.numV t = (M1.valL t.data.toList : Int) := by unfold M1.numV; rw [hb.out]; rfl
        rw [hb.out, q]; rfl
    · have HR : Hid (M1.rdC x0.data.toList (tl xs) = none) := rest_no (fun q => y1 q.1) (fun q => y2 q.1) (fun ⟨_, q⟩ => hn (by rw [← hln.out]; exact q))
      have hnb : ((n : Int) == 1) = false := by simp; omega
      clear x1 y1 y2
      go_enter Tryz.func98, Tryz.ntmps98
      go_wp2_with fail
      refine bodyPost_ret (v := .tuple #[.nilIface, .bool false]) (by simp [results, Tryz.results98, go_sem]) rfl ?_
      exact ⟨by rw [HR.out]; exact ⟨_, rfl⟩, Below.refl _ _⟩
  · have e3 : (x0.toList == [108, 105, 102, 101]) = false := by simpa using e3
    have y3 : ¬ x0.data.toList = M1.wLife := fun q => by have := (tlB e3).1 q; cases this
    have HR : Hid (M1.rdC x0.data.toList (tl xs) = none) := rest_no (fun q => y1 q.1) (fun q => y2 q.1) (fun q => y3 q.1)
    clear y1 y2 y3
    go_enter Tryz.func98, Tryz.ntmps98
    go_wp2_with fail
    refine bodyPost_ret (v := .tuple #[.nilIface, .bool false]) (by simp [results, Tryz.results98, go_sem]) rfl ?_
    exact ⟨by rw [HR.out]; exact ⟨_, rfl⟩, Below.refl _ _⟩
end Go.Proofs.YtbhidjagmonnaaaGreatDoor
