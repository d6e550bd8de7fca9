/-
  Texts of one proof, joined: Rd7.
-/
import Derived.Test.YtbhidjagmonnaaaGreatDoorZSegments17
import Derived.Test.YtbhidjagmonnaaaGreatDoorZSegments24
namespace Go.Proofs.YtbhidjagmonnaaaGreatDoor
open Go.ChangeShapes Go.WideShapes Go.ChangeAt Go.RowKit Go.Shelf
set_option linter.unusedSimpArgs false
set_option linter.unusedVariables false

theorem wB_size2 (s : ByteArray) : ∀ x ∈ wB s.data.toList, x.size ≤ s.size := fun x hx => by
  unfold wB at hx
  obtain ⟨y, hy, e⟩ := List.mem_map.1 hx
  rw [← e, M1.mkB_size]
  have h := M1.join_spl s.data.toList
  have hlen : ∀ (ws : List (List UInt8)) (y : List UInt8), y ∈ ws → y.length ≤ (Lib.join ws [32]).length := by
    intro ws
    induction ws with
    | nil => intro y hy; cases hy
    | cons a t ih =>
      intro y hy
      cases t with
      | nil =>
        have e : y = a := by simpa using hy
        rw [e, Lib.join_one]; exact Nat.le_refl _
      | cons b r =>
        rw [M1.join_cons2, List.length_append, List.length_cons]
        rcases List.mem_cons.1 hy with e | hy
        · rw [e]; omega
        · have := ih y hy; omega
  have := hlen _ y hy
  rw [h, M1.len_list] at this
  omega
theorem tl_wB (l : List UInt8) : tl (wB l) = M1.spl l := by
  unfold tl wB
  rw [List.map_map]
  have : ((fun x : ByteArray => x.data.toList) ∘ M1.mkB) = id := by funext x; exact M1.mkB_toList x
  rw [this, List.map_id]
theorem rdU_xs {l : List UInt8} {xs : List ByteArray} (h : wB l = xs) : M1.rdU l = if xs.length < 6 then none else match M1.rdNs (tl ((xs.drop 1).take 5)) with
    | none => none
    | some n => match M1.rdC (xs.getD 0 ByteArray.empty).data.toList (tl (xs.drop 6)) with
      | none => none
      | some c => if M1.okU (M1.mkU n c) = true then some (M1.mkU n c) else none := by
  unfold M1.rdU M1.rdW
  rw [← tl_wB, h]
  have e1 : (tl xs).length = xs.length := by unfold tl; rw [List.length_map]
  have e2 : ((tl xs).drop 1).take 5 = tl ((xs.drop 1).take 5) := by unfold tl; rw [List.map_take, List.map_drop]
  have e3 : (tl xs).drop 6 = tl (xs.drop 6) := by unfold tl; rw [List.map_drop]
  rw [e1, e2, e3]
  by_cases hl : xs.length < 6
  · rw [if_pos hl, if_pos hl]
  have e4 : (tl xs).getD 0 [] = (xs.getD 0 ByteArray.empty).data.toList := by
    have : 0 < xs.length := by omega
    unfold tl; simp [List.getD, this]
  rw [if_neg hl, if_neg hl, e4]
  rfl
theorem rdC_some {w : List UInt8} {r : List (List UInt8)} {c : M1.Chg} (h : M1.rdC w r = some c) : (c.k = 1 ∧ c.lv = 0 ∧ ∃ y ∈ r, c.s = M1.mkB y) ∨ c = ⟨2, 0, 0, ByteArray.empty, 0, 0, 0⟩ ∨ ∃ m, c = ⟨3, 0, 0, ByteArray.empty, 0, 0, m⟩ := by
  unfold M1.rdC at h
  by_cases h1 : w = M1.wSpan ∧ r.length = 5
  · rw [if_pos h1] at h
    cases e : M1.rdNs (r.take 4) with
    | none => rw [e] at h; cases h
    | some m =>
      rw [e] at h
      have e := (Option.some.inj h).symm
      subst e
      refine .inl ⟨rfl, rfl, r.getD 4 [], ?_, rfl⟩
      have h4 : 4 < r.length := by omega
      rw [show r.getD 4 [] = r[4] by simp [List.getD, h4]]
      exact List.getElem_mem _
  rw [if_neg h1] at h
  by_cases h2 : w = M1.wKeep ∧ r.length = 0
  · rw [if_pos h2] at h
    exact .inr (.inl (Option.some.inj h).symm)
  rw [if_neg h2] at h
  by_cases h3 : w = M1.wLife ∧ r.length = 1
  · rw [if_pos h3] at h
    cases e : M1.rdN (r.getD 0 []) with
    | none => rw [e] at h; cases h
    | some m =>
      rw [e] at h
      exact .inr (.inr ⟨m, (Option.some.inj h).symm⟩)
  · rw [if_neg h3] at h; cases h

theorem RestIn.below {w w' : World} {ra : Option Addr} {n c : Nat} {xs : List ByteArray} (h : RestIn w ra n c xs) (hb : Below w.heap.size w w') : RestIn w' ra n c xs :=
  ⟨h.len, h.cap, h.most, h.lies.imp id fun ⟨g, off, e, wd⟩ => ⟨g, off, e, wd.below hb⟩⟩
theorem withChange_any (a b c d t : Int) (h : M1.Chg) (w : World) (hk : Hid ((h.k = 1 ∧ h.lv = 0) ∨ h = ⟨2, 0, 0, ByteArray.empty, 0, 0, 0⟩ ∨ ∃ m, h = ⟨3, 0, 0, ByteArray.empty, 0, 0, m⟩)) :
    Calls Tryz.prog 99 #[.agg #[.int .i64 a, .int .i64 b, .int .i64 c, .int .i64 d, .int .i64 a, .int .i64 0, .int .i64 t, .int .i64 0, .int .i64 0, .string ⟨#[]⟩, .int .i64 0, .int .i64 0, .int .i64 0], chV h] w fun en w' => en = .returned (.agg #[.int .i64 a, .int .i64 b, .int .i64 c, .int .i64 d, .int .i64 a, .int .i64 h.k, .int .i64 t, .int .i64 h.id, .int .i64 h.pa, .string h.s, .int .i64 h.st, .int .i64 h.en, .int .i64 h.lv]) ∧ Below w.heap.size w w' := by
  rcases hk.out with ⟨h1, h2⟩ | rfl | ⟨m, rfl⟩
  · unfold chV
    rw [if_pos h1, h1, h2]
    exact withChange_span a b c d a 0 t 0 0 0 0 0 _ _ _ _ _ _ w
  · exact withChange_keep a b c d a 0 t 0 0 0 0 0 _ w
  · exact withChange_life a b c d a 0 t 0 0 0 0 0 _ _ w

set_option maxHeartbeats 8000000 in
set_option maxRecDepth 100000 in
theorem readUpdate_impl (s : ByteArray) (m : Int) (w : World) (hs : s.size ≤ 1048576) (hg : 1 < w.heap.size) (hm : w.cell? ⟨1, 0, none⟩ = some (.int .i64 m)) :
    Calls Tryz.prog 83 #[.string s] w fun e w' => e = .returned (RdW s.data.toList) ∧ Below w.heap.size w w' := by
  have hA : Below w.heap.size w (w.alloc (.cells #[.int .i64 0, .int .i64 0, .int .i64 0, .int .i64 0, .int .i64 0, .int .i64 0, .int .i64 0, .int .i64 0, .int .i64 0, .string ⟨#[]⟩, .int .i64 0, .int .i64 0, .int .i64 0] 47)) := (Below.refl _ _).alloc (Nat.le_refl _) _
  go_enter Tryz.func83, Tryz.ntmps83
  go_upto_region 1 with fail
  obtain ⟨W0, hW0⟩ : ∃ W, w.alloc (.cells #[.int .i64 0, .int .i64 0, .int .i64 0, .int .i64 0, .int .i64 0, .int .i64 0, .int .i64 0, .int .i64 0, .int .i64 0, .string ⟨#[]⟩, .int .i64 0, .int .i64 0, .int .i64 0] 47) = W := ⟨_, rfl⟩
  have rr0 := uq_new w M1.zeroU 47
  unfold M1.zeroU at rr0
  rw [show (ByteArray.empty) = (⟨#[]⟩ : ByteArray) from rfl] at rr0
  rw [hW0] at hA rr0 ⊢
  clear hW0
  have hm0 : W0.cell? ⟨1, 0, none⟩ = some (.int .i64 m) := (hA.cell (p := ⟨1, 0, none⟩) hg).trans hm
  clear hm
  have hr0 := rr0.lt
  go_wp2_with fail
  refine (split_any s m _ hs hm0).mono ?_
  rintro e w1 ⟨⟨n, rfl, wd⟩, hb1⟩
  have hB1 := hA.trans (hb1.mono hA.size)
  have rr1 := rr0.below hb1
  clear rr0 hm0
  have hl0 : Hid (∀ x ∈ wB s.data.toList, x.size ≤ 1048576) := fun x hx => by have := wB_size2 s x hx; omega
  obtain ⟨xs, hxs⟩ : ∃ xs, Hid (wB s.data.toList = xs) := ⟨_, rfl⟩
  rw [hxs.out] at wd hl0
  have hl : Hid (∀ x ∈ xs, x.size ≤ maxLen) := fun x hx => by have := hl0.out x hx; unfold maxLen; omega
  have hlen : Hid (xs.length = n) := wd.len
  have HU := (⟨rdU_xs hxs.out⟩ : PLift _)
  have hg1 := wd.lt
  obtain ⟨g, hge⟩ : ∃ g, Hid (W0.heap.size = g) := ⟨_, rfl⟩
  rw [hge.out] at wd hg1 ⊢
  have hmost := wd.most
  unfold maxLen at hmost
  have hrg : ¬ w.heap.size = g := by rw [← hge.out]; omega
  by_cases h6 : n < 6
  · have HR : Hid (RdW s.data.toList = .tuple #[.agg #[.int .i64 0, .int .i64 0, .int .i64 0, .int .i64 0, .int .i64 0, .int .i64 0, .int .i64 0, .int .i64 0, .int .i64 0, .string ByteArray.empty, .int .i64 0, .int .i64 0, .int .i64 0], .bool false]) := rdW_none (by rw [HU.down, if_pos (by rw [hlen.out]; exact h6)])
    have i6 : (n : Int) < 6 := by omega
    obtain ⟨r0, r1, r2, r3, r4, r5, r6, r7, r8, r9, r10, r11, r12⟩ := uq_cells rr1
    obtain ⟨y0, y1, y2, y3, y4, y5, y6, y7, y8, y9, y10, y11, y12⟩ := uq_free rr1
    have rl := rr1.lt
    have rz : RowAt (((((((((((((w1.setCell ⟨w.heap.size, 0, none⟩ (.int .i64 0)).setCell ⟨w.heap.size, 1, none⟩ (.int .i64 0)).setCell ⟨w.heap.size, 2, none⟩ (.int .i64 0)).setCell ⟨w.heap.size, 3, none⟩ (.int .i64 0)).setCell ⟨w.heap.size, 4, none⟩ (.int .i64 0)).setCell ⟨w.heap.size, 5, none⟩ (.int .i64 0)).setCell ⟨w.heap.size, 6, none⟩ (.int .i64 0)).setCell ⟨w.heap.size, 7, none⟩ (.int .i64 0)).setCell ⟨w.heap.size, 8, none⟩ (.int .i64 0)).setCell ⟨w.heap.size, 9, none⟩ (.string ⟨#[]⟩)).setCell ⟨w.heap.size, 10, none⟩ (.int .i64 0)).setCell ⟨w.heap.size, 11, none⟩ (.int .i64 0)).setCell ⟨w.heap.size, 12, none⟩ (.int .i64 0)) w.heap.size 13 (uq M1.zeroU) := uq_put rr1 M1.zeroU
    have hBz : Below w.heap.size w (((((((((((((w1.setCell ⟨w.heap.size, 0, none⟩ (.int .i64 0)).setCell ⟨w.heap.size, 1, none⟩ (.int .i64 0)).setCell ⟨w.heap.size, 2, none⟩ (.int .i64 0)).setCell ⟨w.heap.size, 3, none⟩ (.int .i64 0)).setCell ⟨w.heap.size, 4, none⟩ (.int .i64 0)).setCell ⟨w.heap.size, 5, none⟩ (.int .i64 0)).setCell ⟨w.heap.size, 6, none⟩ (.int .i64 0)).setCell ⟨w.heap.size, 7, none⟩ (.int .i64 0)).setCell ⟨w.heap.size, 8, none⟩ (.int .i64 0)).setCell ⟨w.heap.size, 9, none⟩ (.string ⟨#[]⟩)).setCell ⟨w.heap.size, 10, none⟩ (.int .i64 0)).setCell ⟨w.heap.size, 11, none⟩ (.int .i64 0)).setCell ⟨w.heap.size, 12, none⟩ (.int .i64 0)) := bel_put hB1 (Nat.le_refl _) M1.zeroU
    go_wp2_with fail
    clear r0 r1 r2 r3 r4 r5 r6 r7 r8 r9 r10 r11 r12 y0 y1 y2 y3 y4 y5 y6 y7 y8 y9 y10 y11 y12 rr1
    obtain ⟨Wz, hWz⟩ : ∃ W, (((((((((((((w1.setCell ⟨w.heap.size, 0, none⟩ (.int .i64 0)).setCell ⟨w.heap.size, 1, none⟩ (.int .i64 0)).setCell ⟨w.heap.size, 2, none⟩ (.int .i64 0)).setCell ⟨w.heap.size, 3, none⟩ (.int .i64 0)).setCell ⟨w.heap.size, 4, none⟩ (.int .i64 0)).setCell ⟨w.heap.size, 5, none⟩ (.int .i64 0)).setCell ⟨w.heap.size, 6, none⟩ (.int .i64 0)).setCell ⟨w.heap.size, 7, none⟩ (.int .i64 0)).setCell ⟨w.heap.size, 8, none⟩ (.int .i64 0)).setCell ⟨w.heap.size, 9, none⟩ (.string ⟨#[]⟩)).setCell ⟨w.heap.size, 10, none⟩ (.int .i64 0)).setCell ⟨w.heap.size, 11, none⟩ (.int .i64 0)).setCell ⟨w.heap.size, 12, none⟩ (.int .i64 0)) = W := ⟨_, rfl⟩
    rw [hWz] at rz hBz ⊢
    clear hWz
    obtain ⟨v0, v1, v2, v3, v4, v5, v6, v7, v8, v9, v10, v11, v12⟩ := uq_cells rz
    unfold M1.zeroU at v0 v1 v2 v3 v4 v5 v6 v7 v8 v9 v10 v11 v12
    refine bodyPost_ret (v := .tuple #[.agg #[.int .i64 0, .int .i64 0, .int .i64 0, .int .i64 0, .int .i64 0, .int .i64 0, .int .i64 0, .int .i64 0, .int .i64 0, .string ByteArray.empty, .int .i64 0, .int .i64 0, .int .i64 0], .bool false]) (by simp [results, Tryz.results83, go_sem, v0, v1, v2, v3, v4, v5, v6, v7, v8, v9, v10, v11, v12]) rfl ?_
    exact ⟨by rw [HR.out], hBz⟩
  obtain ⟨j, hj⟩ : ∃ j, Hid (n = j + 6) := ⟨n - 6, (by omega : n = n - 6 + 6)⟩
  rw [hj.out] at wd hlen hmost ⊢
  clear h6 hj
  have i6 : ¬ ((j + 6 : Nat) : Int) < 6 := by omega
  replace HU := (⟨by have := HU.down; rw [if_neg (by rw [hlen.out]; omega)] at this; exact this⟩ : PLift (M1.rdU s.data.toList = match M1.rdNs (tl ((xs.drop 1).take 5)) with
    | none => none
    | some n => match M1.rdC (xs.getD 0 ByteArray.empty).data.toList (tl (xs.drop 6)) with
      | none => none
      | some c => if M1.okU (M1.mkU n c) = true then some (M1.mkU n c) else none))
  have wd5 : WdsAt w1 g 1 5 (j + 5) ((xs.drop 1).take 5) := ⟨by rw [List.length_take, List.length_drop, hlen.out]; omega, by omega, by unfold maxLen; omega, wd.lt, fun i hi => by
    have := wd.cell (1 + i) (by omega)
    rw [Nat.zero_add] at this
    rw [this]
    simp [List.getD, hi, List.getElem?_take, List.getElem?_drop, Nat.add_comm]⟩
  have hl5 : Hid (∀ x ∈ (xs.drop 1).take 5, x.size ≤ maxLen) := fun x hx => hl.out x (List.mem_of_mem_drop (List.mem_of_mem_take hx))
  go_upto_region 4 with fail
  go_wp2_with fail
  refine (readDecimals_any g 1 5 (j + 5) ((xs.drop 1).take 5) _ wd5 (by omega) hl5).mono ?_
  rintro e w2 ⟨hr, hb2⟩
  have hB2 := hB1.trans (hb2.mono hB1.size)
  have rr2 := rr1.below hb2
  have wd2 := wd.below hb2
  clear wd wd5 rr1
  unfold RdsW at hr
  change match M1.rdNs (tl ((xs.drop 1).take 5)) with | none => _ | some ns => _ at hr
  cases hq : M1.rdNs (tl ((xs.drop 1).take 5)) with
  | none =>
    rw [hq] at hr
    have HR : Hid (RdW s.data.toList = .tuple #[.agg #[.int .i64 0, .int .i64 0, .int .i64 0, .int .i64 0, .int .i64 0, .int .i64 0, .int .i64 0, .int .i64 0, .int .i64 0, .string ByteArray.empty, .int .i64 0, .int .i64 0, .int .i64 0], .bool false]) := rdW_none (by rw [HU.down, hq])
    clear hq HU
    simp only at hr
    subst hr
    obtain ⟨r0, r1, r2, r3, r4, r5, r6, r7, r8, r9, r10, r11, r12⟩ := uq_cells rr2
    obtain ⟨y0, y1, y2, y3, y4, y5, y6, y7, y8, y9, y10, y11, y12⟩ := uq_free rr2
    have rl := rr2.lt
    have rz : RowAt (((((((((((((w2.setCell ⟨w.heap.size, 0, none⟩ (.int .i64 0)).setCell ⟨w.heap.size, 1, none⟩ (.int .i64 0)).setCell ⟨w.heap.size, 2, none⟩ (.int .i64 0)).setCell ⟨w.heap.size, 3, none⟩ (.int .i64 0)).setCell ⟨w.heap.size, 4, none⟩ (.int .i64 0)).setCell ⟨w.heap.size, 5, none⟩ (.int .i64 0)).setCell ⟨w.heap.size, 6, none⟩ (.int .i64 0)).setCell ⟨w.heap.size, 7, none⟩ (.int .i64 0)).setCell ⟨w.heap.size, 8, none⟩ (.int .i64 0)).setCell ⟨w.heap.size, 9, none⟩ (.string ⟨#[]⟩)).setCell ⟨w.heap.size, 10, none⟩ (.int .i64 0)).setCell ⟨w.heap.size, 11, none⟩ (.int .i64 0)).setCell ⟨w.heap.size, 12, none⟩ (.int .i64 0)) w.heap.size 13 (uq M1.zeroU) := uq_put rr2 M1.zeroU
    have hBz : Below w.heap.size w (((((((((((((w2.setCell ⟨w.heap.size, 0, none⟩ (.int .i64 0)).setCell ⟨w.heap.size, 1, none⟩ (.int .i64 0)).setCell ⟨w.heap.size, 2, none⟩ (.int .i64 0)).setCell ⟨w.heap.size, 3, none⟩ (.int .i64 0)).setCell ⟨w.heap.size, 4, none⟩ (.int .i64 0)).setCell ⟨w.heap.size, 5, none⟩ (.int .i64 0)).setCell ⟨w.heap.size, 6, none⟩ (.int .i64 0)).setCell ⟨w.heap.size, 7, none⟩ (.int .i64 0)).setCell ⟨w.heap.size, 8, none⟩ (.int .i64 0)).setCell ⟨w.heap.size, 9, none⟩ (.string ⟨#[]⟩)).setCell ⟨w.heap.size, 10, none⟩ (.int .i64 0)).setCell ⟨w.heap.size, 11, none⟩ (.int .i64 0)).setCell ⟨w.heap.size, 12, none⟩ (.int .i64 0)) := bel_put hB2 (Nat.le_refl _) M1.zeroU
    go_wp2_with fail
    clear r0 r1 r2 r3 r4 r5 r6 r7 r8 r9 r10 r11 r12 y0 y1 y2 y3 y4 y5 y6 y7 y8 y9 y10 y11 y12 rr2
    obtain ⟨Wz, hWz⟩ : ∃ W, (((((((((((((w2.setCell ⟨w.heap.size, 0, none⟩ (.int .i64 0)).setCell ⟨w.heap.size, 1, none⟩ (.int .i64 0)).setCell ⟨w.heap.size, 2, none⟩ (.int .i64 0)).setCell ⟨w.heap.size, 3, none⟩ (.int .i64 0)).setCell ⟨w.heap.size, 4, none⟩ (.int .i64 0)).setCell ⟨w.heap.size, 5, none⟩ (.int .i64 0)).setCell ⟨w.heap.size, 6, none⟩ (.int .i64 0)).setCell ⟨w.heap.size, 7, none⟩ (.int .i64 0)).setCell ⟨w.heap.size, 8, none⟩ (.int .i64 0)).setCell ⟨w.heap.size, 9, none⟩ (.string ⟨#[]⟩)).setCell ⟨w.heap.size, 10, none⟩ (.int .i64 0)).setCell ⟨w.heap.size, 11, none⟩ (.int .i64 0)).setCell ⟨w.heap.size, 12, none⟩ (.int .i64 0)) = W := ⟨_, rfl⟩
    rw [hWz] at rz hBz ⊢
    clear hWz
    obtain ⟨v0, v1, v2, v3, v4, v5, v6, v7, v8, v9, v10, v11, v12⟩ := uq_cells rz
    unfold M1.zeroU at v0 v1 v2 v3 v4 v5 v6 v7 v8 v9 v10 v11 v12
    refine bodyPost_ret (v := .tuple #[.agg #[.int .i64 0, .int .i64 0, .int .i64 0, .int .i64 0, .int .i64 0, .int .i64 0, .int .i64 0, .int .i64 0, .int .i64 0, .string ByteArray.empty, .int .i64 0, .int .i64 0, .int .i64 0], .bool false]) (by simp [results, Tryz.results83, go_sem, v0, v1, v2, v3, v4, v5, v6, v7, v8, v9, v10, v11, v12]) rfl ?_
    exact ⟨by rw [HR.out], hBz⟩
  | some ns =>
    rw [hq] at hr
    obtain ⟨av, cap, rfl, mi⟩ := hr
    have hn5 : Hid (ns.length = 5) := (by have := (M1.rdNs_some hq).2; rw [this]; unfold tl; rw [List.length_map, List.length_take, List.length_drop, hlen.out]; omega : _ = _)
    rw [hn5.out] at mi ⊢
    replace HU := (⟨by have := HU.down; rw [hq] at this; exact this⟩ : PLift (M1.rdU s.data.toList = match M1.rdC (xs.getD 0 ByteArray.empty).data.toList (tl (xs.drop 6)) with
      | none => none
      | some c => if M1.okU (M1.mkU ns c) = true then some (M1.mkU ns c) else none))
    clear hq
    have d0 := wd2.cell 0 (by omega)
    rw [Nat.add_zero] at d0
    have hgl := wd2.lt
    obtain ⟨x0, hx0⟩ : ∃ x, Hid (xs.getD 0 ByteArray.empty = x) := ⟨_, rfl⟩
    rw [hx0.out] at d0 HU
    have hl6 : Hid (∀ x ∈ xs.drop 6, x.size ≤ 1048576) := fun x hx => hl0.out x (List.mem_of_mem_drop hx)
    have hrest : ∃ ra, RestIn w2 ra j j (xs.drop 6) ∧ ra = some ⟨g, if j = 0 then 0 else 6, none⟩ := ⟨_, ⟨by rw [List.length_drop, hlen.out]; omega, Nat.le_refl _, by unfold maxLen; omega, by
      by_cases hj : j = 0
      · exact .inl hj
      · refine .inr ⟨g, 6, by rw [if_neg hj], by rw [List.length_drop, hlen.out]; omega, Nat.le_refl _, by unfold maxLen; omega, wd2.lt, fun i hi => ?_⟩
        have := wd2.cell (6 + i) (by omega)
        rw [Nat.zero_add] at this
        rw [this]
        simp [List.getD, List.getElem?_drop]⟩, rfl⟩
    obtain ⟨ra, hre, hra0⟩ := hrest
    have hra : Hid (ra = some ⟨g, if j = 0 then 0 else 6, none⟩) := hra0
    clear hra0
    go_upto_region 7 with fail
    cases hq : M1.rdC x0.data.toList (tl (xs.drop 6)) with
    | none =>
      have HR : Hid (RdW s.data.toList = .tuple #[.agg #[.int .i64 0, .int .i64 0, .int .i64 0, .int .i64 0, .int .i64 0, .int .i64 0, .int .i64 0, .int .i64 0, .int .i64 0, .string ByteArray.empty, .int .i64 0, .int .i64 0, .int .i64 0], .bool false]) := rdW_none (by rw [HU.down, hq])
      clear HU
      replace hq := (⟨hq⟩ : PLift _)
      refine wp_region_held_drew (S := fun w' => Kp w2 w') (by kernel_rfl) ?_ (fun hHeld => ?_)
      · exact kp_zero _
      refine wpAnyH_take (i := 0) (v := ?_) rfl (by kernel_rfl) (by kernel_rfl) (by kernel_rfl) (fun _ _ _ h => h) (Or.inl ⟨by rfl, ?_⟩) hHeld ?_
      rotate_left
      · (intro w hSw; (try dsimp only at hSw); go_simp; try (with_reducible rfl))
      (try simp only [Act.put, aZ, bZ, cZ, dZ, eZ, fZ])
      refine wpAnyH_take (i := 1) (v := .pointer (some ⟨g, 0, none⟩)) rfl (by kernel_rfl) (by kernel_rfl) (by kernel_rfl) (fun _ _ _ h => h) (Or.inl ⟨by rfl, ?_⟩) hHeld ?_
      · (intro w hSw; (try dsimp only at hSw); go_simp; (intro hx; omega))
      (try simp only [Act.put, aZ, bZ, cZ, dZ, eZ, fZ])
      refine wpAnyH_take (i := 2) (v := .string x0) rfl (by kernel_rfl) (by kernel_rfl) (by kernel_rfl) (fun _ _ _ h => h) (Or.inl ⟨by rfl, ?_⟩) hHeld ?_
      · (intro w hSw; (try dsimp only at hSw); go_simp; skip)
      (try simp only [Act.put, aZ, bZ, cZ, dZ, eZ, fZ])
      refine wpAnyH_take (i := 3) (v := ?_) rfl (by kernel_rfl) (by kernel_rfl) (by kernel_rfl) (fun _ _ _ h => h) (Or.inl ⟨by rfl, ?_⟩) hHeld ?_
      rotate_left
      · (intro w hSw; (try dsimp only at hSw); go_simp; try (with_reducible rfl))
      (try simp only [Act.put, aZ, bZ, cZ, dZ, eZ, fZ])
      refine wpAnyH_take (i := 4) (v := .slice ra j j) rfl (by kernel_rfl) (by kernel_rfl) (by kernel_rfl) (fun _ _ _ h => h) (Or.inl ⟨by rfl, ?_⟩) hHeld ?_
      · (intro w hSw; (try dsimp only at hSw); go_simp; (rw [hra.out]; by_cases hj : j = 0 <;> simp [hj]))
      (try simp only [Act.put, aZ, bZ, cZ, dZ, eZ, fZ])
      refine wpAnyH_ready (rs := [5]) (by kernel_rfl) (by simp) ?_
      refine AllReadyH.cons (o := _) rfl (fun K hK => ?_) AllReadyH.nil
      go_simp
      (refine (readChange_any x0 ra j j (xs.drop 6) _ (hre.below hHeld.1) hl6).mono ?_; rintro e w8 ⟨hr8, hb8⟩; unfold ChW at hr8; rw [hq.down] at hr8; obtain ⟨v8, rfl⟩ := hr8; go_wp2_with fail)
      refine hK.out _ _ ?_ (fun hHeld2 => ?_)
      · exact kp_step hHeld hb8
      clear hK K hHeld
      have hHeld := hHeld2
      clear hHeld2
      (try simp only [Act.put, aZ, bZ, cZ, dZ, eZ, fZ])
      refine wpAnyH_take (i := 6) (v := ?_) rfl (by kernel_rfl) (by kernel_rfl) (by kernel_rfl) (fun _ _ _ h => h) (Or.inl ⟨by rfl, ?_⟩) hHeld ?_
      rotate_left
      · (intro w hSw; (try dsimp only at hSw); go_simp; try (with_reducible rfl))
      (try simp only [Act.put, aZ, bZ, cZ, dZ, eZ, fZ])
      refine wpAnyH_take (i := 7) (v := ?_) rfl (by kernel_rfl) (by kernel_rfl) (by kernel_rfl) (fun _ _ _ h => h) (Or.inl ⟨by rfl, ?_⟩) hHeld ?_
      rotate_left
      · (intro w hSw; (try dsimp only at hSw); go_simp; try (with_reducible rfl))
      (try simp only [Act.put, aZ, bZ, cZ, dZ, eZ, fZ])
      refine wpAnyH_take (i := 8) (v := ?_) rfl (by kernel_rfl) (by kernel_rfl) (by kernel_rfl) (fun _ _ _ h => h) (Or.inl ⟨by rfl, ?_⟩) hHeld ?_
      rotate_left
      · (intro w hSw; (try dsimp only at hSw); go_simp; try (with_reducible rfl))
      (try simp only [Act.put, aZ, bZ, cZ, dZ, eZ, fZ])
      refine wpAnyH_take (i := 9) (v := ?_) rfl (by kernel_rfl) (by kernel_rfl) (by kernel_rfl) (fun _ _ _ h => h) (Or.inl ⟨by rfl, ?_⟩) hHeld ?_
      rotate_left
      · (intro w hSw; (try dsimp only at hSw); go_simp; try (with_reducible rfl))
      (try simp only [Act.put, aZ, bZ, cZ, dZ, eZ, fZ])
      refine wpAnyH_take (i := 10) (v := ?_) rfl (by kernel_rfl) (by kernel_rfl) (by kernel_rfl) (fun _ _ _ h => h) (Or.inl ⟨by rfl, ?_⟩) hHeld ?_
      rotate_left
      · (intro w hSw; (try dsimp only at hSw); go_simp; try (with_reducible rfl))
      (try simp only [Act.put, aZ, bZ, cZ, dZ, eZ, fZ])
      refine wpAnyH_done (by kernel_rfl) ?_ _
      have rr8 := rr2.below hHeld.1
      have hB8 := hB2.trans (hHeld.1.mono hB2.size)
      clear hHeld rr2 wd2 mi d0
      obtain ⟨r0, r1, r2, r3, r4, r5, r6, r7, r8, r9, r10, r11, r12⟩ := uq_cells rr8
      obtain ⟨y0, y1, y2, y3, y4, y5, y6, y7, y8, y9, y10, y11, y12⟩ := uq_free rr8
      have rl := rr8.lt
      have rz : RowAt (((((((((((((w8.setCell ⟨w.heap.size, 0, none⟩ (.int .i64 0)).setCell ⟨w.heap.size, 1, none⟩ (.int .i64 0)).setCell ⟨w.heap.size, 2, none⟩ (.int .i64 0)).setCell ⟨w.heap.size, 3, none⟩ (.int .i64 0)).setCell ⟨w.heap.size, 4, none⟩ (.int .i64 0)).setCell ⟨w.heap.size, 5, none⟩ (.int .i64 0)).setCell ⟨w.heap.size, 6, none⟩ (.int .i64 0)).setCell ⟨w.heap.size, 7, none⟩ (.int .i64 0)).setCell ⟨w.heap.size, 8, none⟩ (.int .i64 0)).setCell ⟨w.heap.size, 9, none⟩ (.string ⟨#[]⟩)).setCell ⟨w.heap.size, 10, none⟩ (.int .i64 0)).setCell ⟨w.heap.size, 11, none⟩ (.int .i64 0)).setCell ⟨w.heap.size, 12, none⟩ (.int .i64 0)) w.heap.size 13 (uq M1.zeroU) := uq_put rr8 M1.zeroU
      have hBz : Below w.heap.size w (((((((((((((w8.setCell ⟨w.heap.size, 0, none⟩ (.int .i64 0)).setCell ⟨w.heap.size, 1, none⟩ (.int .i64 0)).setCell ⟨w.heap.size, 2, none⟩ (.int .i64 0)).setCell ⟨w.heap.size, 3, none⟩ (.int .i64 0)).setCell ⟨w.heap.size, 4, none⟩ (.int .i64 0)).setCell ⟨w.heap.size, 5, none⟩ (.int .i64 0)).setCell ⟨w.heap.size, 6, none⟩ (.int .i64 0)).setCell ⟨w.heap.size, 7, none⟩ (.int .i64 0)).setCell ⟨w.heap.size, 8, none⟩ (.int .i64 0)).setCell ⟨w.heap.size, 9, none⟩ (.string ⟨#[]⟩)).setCell ⟨w.heap.size, 10, none⟩ (.int .i64 0)).setCell ⟨w.heap.size, 11, none⟩ (.int .i64 0)).setCell ⟨w.heap.size, 12, none⟩ (.int .i64 0)) := bel_put hB8 (Nat.le_refl _) M1.zeroU
      go_wp2_with fail
      clear r0 r1 r2 r3 r4 r5 r6 r7 r8 r9 r10 r11 r12 y0 y1 y2 y3 y4 y5 y6 y7 y8 y9 y10 y11 y12 rr8
      obtain ⟨Wz, hWz⟩ : ∃ W, (((((((((((((w8.setCell ⟨w.heap.size, 0, none⟩ (.int .i64 0)).setCell ⟨w.heap.size, 1, none⟩ (.int .i64 0)).setCell ⟨w.heap.size, 2, none⟩ (.int .i64 0)).setCell ⟨w.heap.size, 3, none⟩ (.int .i64 0)).setCell ⟨w.heap.size, 4, none⟩ (.int .i64 0)).setCell ⟨w.heap.size, 5, none⟩ (.int .i64 0)).setCell ⟨w.heap.size, 6, none⟩ (.int .i64 0)).setCell ⟨w.heap.size, 7, none⟩ (.int .i64 0)).setCell ⟨w.heap.size, 8, none⟩ (.int .i64 0)).setCell ⟨w.heap.size, 9, none⟩ (.string ⟨#[]⟩)).setCell ⟨w.heap.size, 10, none⟩ (.int .i64 0)).setCell ⟨w.heap.size, 11, none⟩ (.int .i64 0)).setCell ⟨w.heap.size, 12, none⟩ (.int .i64 0)) = W := ⟨_, rfl⟩
      rw [hWz] at rz hBz ⊢
      clear hWz
      obtain ⟨v0, v1, v2, v3, v4, v5, v6, v7, v8, v9, v10, v11, v12⟩ := uq_cells rz
      unfold M1.zeroU at v0 v1 v2 v3 v4 v5 v6 v7 v8 v9 v10 v11 v12
      refine bodyPost_ret (v := .tuple #[.agg #[.int .i64 0, .int .i64 0, .int .i64 0, .int .i64 0, .int .i64 0, .int .i64 0, .int .i64 0, .int .i64 0, .int .i64 0, .string ByteArray.empty, .int .i64 0, .int .i64 0, .int .i64 0], .bool false]) (by simp [results, Tryz.results83, go_sem, v0, v1, v2, v3, v4, v5, v6, v7, v8, v9, v10, v11, v12]) rfl ?_
      exact ⟨by rw [HR.out], hBz⟩
    | some c =>
      have hck : Hid ((c.k = 1 ∧ c.lv = 0) ∨ c = ⟨2, 0, 0, ByteArray.empty, 0, 0, 0⟩ ∨ ∃ m, c = ⟨3, 0, 0, ByteArray.empty, 0, 0, m⟩) := (rdC_some hq).imp (fun h => ⟨h.1, h.2.1⟩) id
      have hcs : Hid (c.s.size ≤ maxLen) := (by
        rcases rdC_some hq with ⟨_, _, y, hy, e⟩ | rfl | ⟨m, rfl⟩
        · unfold tl at hy
          obtain ⟨x, hx, rfl⟩ := List.mem_map.1 hy
          rw [e, M1.mkB_of]
          exact hl.out x (List.mem_of_mem_drop hx)
        · exact Nat.zero_le _
        · exact Nat.zero_le _ : _ ≤ _)
      replace HU := (⟨by have := HU.down; rw [hq] at this; exact this⟩ : PLift (M1.rdU s.data.toList = if M1.okU (M1.mkU ns c) = true then some (M1.mkU ns c) else none))
      replace hq := (⟨hq⟩ : PLift _)
      refine wp_region_held_drew (S := fun w' => Kp w2 w') (by kernel_rfl) ?_ (fun hHeld => ?_)
      · exact kp_zero _
      refine wpAnyH_take (i := 0) (v := ?_) rfl (by kernel_rfl) (by kernel_rfl) (by kernel_rfl) (fun _ _ _ h => h) (Or.inl ⟨by rfl, ?_⟩) hHeld ?_
      rotate_left
      · (intro w hSw; (try dsimp only at hSw); go_simp; try (with_reducible rfl))
      (try simp only [Act.put, aZ, bZ, cZ, dZ, eZ, fZ])
      refine wpAnyH_take (i := 1) (v := .pointer (some ⟨g, 0, none⟩)) rfl (by kernel_rfl) (by kernel_rfl) (by kernel_rfl) (fun _ _ _ h => h) (Or.inl ⟨by rfl, ?_⟩) hHeld ?_
      · (intro w hSw; (try dsimp only at hSw); go_simp; (intro hx; omega))
      (try simp only [Act.put, aZ, bZ, cZ, dZ, eZ, fZ])
      refine wpAnyH_take (i := 2) (v := .string x0) rfl (by kernel_rfl) (by kernel_rfl) (by kernel_rfl) (fun _ _ _ h => h) (Or.inl ⟨by rfl, ?_⟩) hHeld ?_
      · (intro w hSw; (try dsimp only at hSw); go_simp; skip)
      (try simp only [Act.put, aZ, bZ, cZ, dZ, eZ, fZ])
      refine wpAnyH_take (i := 3) (v := ?_) rfl (by kernel_rfl) (by kernel_rfl) (by kernel_rfl) (fun _ _ _ h => h) (Or.inl ⟨by rfl, ?_⟩) hHeld ?_
      rotate_left
      · (intro w hSw; (try dsimp only at hSw); go_simp; try (with_reducible rfl))
      (try simp only [Act.put, aZ, bZ, cZ, dZ, eZ, fZ])
      refine wpAnyH_take (i := 4) (v := .slice ra j j) rfl (by kernel_rfl) (by kernel_rfl) (by kernel_rfl) (fun _ _ _ h => h) (Or.inl ⟨by rfl, ?_⟩) hHeld ?_
      · (intro w hSw; (try dsimp only at hSw); go_simp; (rw [hra.out]; by_cases hj : j = 0 <;> simp [hj]))
      (try simp only [Act.put, aZ, bZ, cZ, dZ, eZ, fZ])
      refine wpAnyH_ready (rs := [5]) (by kernel_rfl) (by simp) ?_
      refine AllReadyH.cons (o := _) rfl (fun K hK => ?_) AllReadyH.nil
      go_simp
      (refine (readChange_any x0 ra j j (xs.drop 6) _ (hre.below hHeld.1) hl6).mono ?_; rintro e w8 ⟨hr8, hb8⟩; unfold ChW at hr8; rw [hq.down] at hr8; subst hr8; go_wp2_with fail)
      refine hK.out _ _ ?_ (fun hHeld2 => ?_)
      · exact kp_step hHeld hb8
      clear hK K hHeld
      have hHeld := hHeld2
      clear hHeld2
      (try simp only [Act.put, aZ, bZ, cZ, dZ, eZ, fZ])
      refine wpAnyH_take (i := 6) (v := ?_) rfl (by kernel_rfl) (by kernel_rfl) (by kernel_rfl) (fun _ _ _ h => h) (Or.inl ⟨by rfl, ?_⟩) hHeld ?_
      rotate_left
      · (intro w hSw; (try dsimp only at hSw); go_simp; try (with_reducible rfl))
      (try simp only [Act.put, aZ, bZ, cZ, dZ, eZ, fZ])
      refine wpAnyH_take (i := 7) (v := ?_) rfl (by kernel_rfl) (by kernel_rfl) (by kernel_rfl) (fun _ _ _ h => h) (Or.inl ⟨by rfl, ?_⟩) hHeld ?_
      rotate_left
      · (intro w hSw; (try dsimp only at hSw); go_simp; try (with_reducible rfl))
      (try simp only [Act.put, aZ, bZ, cZ, dZ, eZ, fZ])
      refine wpAnyH_take (i := 8) (v := ?_) rfl (by kernel_rfl) (by kernel_rfl) (by kernel_rfl) (fun _ _ _ h => h) (Or.inl ⟨by rfl, ?_⟩) hHeld ?_
      rotate_left
      · (intro w hSw; (try dsimp only at hSw); go_simp; try (with_reducible rfl))
      (try simp only [Act.put, aZ, bZ, cZ, dZ, eZ, fZ])
      refine wpAnyH_take (i := 9) (v := ?_) rfl (by kernel_rfl) (by kernel_rfl) (by kernel_rfl) (fun _ _ _ h => h) (Or.inl ⟨by rfl, ?_⟩) hHeld ?_
      rotate_left
      · (intro w hSw; (try dsimp only at hSw); go_simp; try (with_reducible rfl))
      (try simp only [Act.put, aZ, bZ, cZ, dZ, eZ, fZ])
      refine wpAnyH_take (i := 10) (v := ?_) rfl (by kernel_rfl) (by kernel_rfl) (by kernel_rfl) (fun _ _ _ h => h) (Or.inl ⟨by rfl, ?_⟩) hHeld ?_
      rotate_left
      · (intro w hSw; (try dsimp only at hSw); go_simp; try (with_reducible rfl))
      (try simp only [Act.put, aZ, bZ, cZ, dZ, eZ, fZ])
      refine wpAnyH_done (by kernel_rfl) ?_ _
      have rr8 := rr2.below hHeld.1
      have mi8 := mi.below hHeld.1
      have hB8 := hB2.trans (hHeld.1.mono hB2.size)
      clear hHeld rr2 wd2 d0 mi hq
      have mc := mi8.1
      have mm := mi8.2.1
      unfold maxLen at mm
      rcases mi8.2.2 with ⟨h0, _⟩ | ⟨gm, rfl, _, _, rm⟩
      · omega
      have m0 : w8.cell? ⟨gm, 0, none⟩ = some (.int .i64 (ns.getD 0 0)) := rm.cell (o := 0) (by omega)
      have m1 : w8.cell? ⟨gm, 1, none⟩ = some (.int .i64 (ns.getD 1 0)) := rm.cell (o := 1) (by omega)
      have m2 : w8.cell? ⟨gm, 2, none⟩ = some (.int .i64 (ns.getD 2 0)) := rm.cell (o := 2) (by omega)
      have m3 : w8.cell? ⟨gm, 3, none⟩ = some (.int .i64 (ns.getD 3 0)) := rm.cell (o := 3) (by omega)
      have m4 : w8.cell? ⟨gm, 4, none⟩ = some (.int .i64 (ns.getD 4 0)) := rm.cell (o := 4) (by omega)
      have hgm := rm.lt
      replace HU := (⟨by have := HU.down; unfold M1.mkU at this; exact this⟩ : PLift (M1.rdU s.data.toList = if M1.okU ⟨ns.getD 0 0, ns.getD 1 0, ns.getD 2 0, ns.getD 3 0, ns.getD 0 0, c.k, ns.getD 4 0, c.id, c.pa, c.s, c.st, c.en, c.lv⟩ = true then some ⟨ns.getD 0 0, ns.getD 1 0, ns.getD 2 0, ns.getD 3 0, ns.getD 0 0, c.k, ns.getD 4 0, c.id, c.pa, c.s, c.st, c.en, c.lv⟩ else none))
      obtain ⟨a0, ha0⟩ : ∃ a, Hid (ns.getD 0 0 = a) := ⟨_, rfl⟩
      obtain ⟨a1, ha1⟩ : ∃ a, Hid (ns.getD 1 0 = a) := ⟨_, rfl⟩
      obtain ⟨a2, ha2⟩ : ∃ a, Hid (ns.getD 2 0 = a) := ⟨_, rfl⟩
      obtain ⟨a3, ha3⟩ : ∃ a, Hid (ns.getD 3 0 = a) := ⟨_, rfl⟩
      obtain ⟨a4, ha4⟩ : ∃ a, Hid (ns.getD 4 0 = a) := ⟨_, rfl⟩
      rw [ha0.out] at m0
      rw [ha1.out] at m1
      rw [ha2.out] at m2
      rw [ha3.out] at m3
      rw [ha4.out] at m4
      rw [ha0.out, ha1.out, ha2.out, ha3.out, ha4.out] at HU
      clear ha0 ha1 ha2 ha3 ha4 mi8 rm
      go_upto_region 10 with fail
      refine wp_region_held_drew (S := fun w' => Kp w8 w') (by kernel_rfl) ?_ (fun hHeld => ?_)
      · exact kp_zero _
      refine wpAnyH_take (i := 0) (v := ?_) rfl (by kernel_rfl) (by kernel_rfl) (by kernel_rfl) (fun _ _ _ h => h) (Or.inl ⟨by rfl, ?_⟩) hHeld ?_
      rotate_left
      · (intro w hSw; (try dsimp only at hSw); go_simp; try (with_reducible rfl))
      (try simp only [Act.put, aZ, bZ, cZ, dZ, eZ, fZ])
      refine wpAnyH_take (i := 1) (v := ?_) rfl (by kernel_rfl) (by kernel_rfl) (by kernel_rfl) (fun _ _ _ h => h) (Or.inl ⟨by rfl, ?_⟩) hHeld ?_
      rotate_left
      · (intro w hSw; (try dsimp only at hSw); go_simp; try (with_reducible rfl))
      (try simp only [Act.put, aZ, bZ, cZ, dZ, eZ, fZ])
      refine wpAnyH_take (i := 2) (v := .int .i64 a0) rfl (by kernel_rfl) (by kernel_rfl) (by kernel_rfl) (fun _ _ _ h => h) (Or.inl ⟨by rfl, ?_⟩) hHeld ?_
      · (intro w hSw; (try dsimp only at hSw); go_simp; skip)
      (try simp only [Act.put, aZ, bZ, cZ, dZ, eZ, fZ])
      refine wpAnyH_take (i := 3) (v := ?_) rfl (by kernel_rfl) (by kernel_rfl) (by kernel_rfl) (fun _ _ _ h => h) (Or.inl ⟨by rfl, ?_⟩) hHeld ?_
      rotate_left
      · (intro w hSw; (try dsimp only at hSw); go_simp; try (with_reducible rfl))
      (try simp only [Act.put, aZ, bZ, cZ, dZ, eZ, fZ])
      refine wpAnyH_take (i := 4) (v := ?_) rfl (by kernel_rfl) (by kernel_rfl) (by kernel_rfl) (fun _ _ _ h => h) (Or.inl ⟨by rfl, ?_⟩) hHeld ?_
      rotate_left
      · (intro w hSw; (try dsimp only at hSw); go_simp; try (with_reducible rfl))
      (try simp only [Act.put, aZ, bZ, cZ, dZ, eZ, fZ])
      refine wpAnyH_take (i := 5) (v := .int .i64 a1) rfl (by kernel_rfl) (by kernel_rfl) (by kernel_rfl) (fun _ _ _ h => h) (Or.inl ⟨by rfl, ?_⟩) hHeld ?_
      · (intro w hSw; (try dsimp only at hSw); go_simp; skip)
      (try simp only [Act.put, aZ, bZ, cZ, dZ, eZ, fZ])
      refine wpAnyH_take (i := 6) (v := ?_) rfl (by kernel_rfl) (by kernel_rfl) (by kernel_rfl) (fun _ _ _ h => h) (Or.inl ⟨by rfl, ?_⟩) hHeld ?_
      rotate_left
      · (intro w hSw; (try dsimp only at hSw); go_simp; try (with_reducible rfl))
      (try simp only [Act.put, aZ, bZ, cZ, dZ, eZ, fZ])
      refine wpAnyH_take (i := 7) (v := ?_) rfl (by kernel_rfl) (by kernel_rfl) (by kernel_rfl) (fun _ _ _ h => h) (Or.inl ⟨by rfl, ?_⟩) hHeld ?_
      rotate_left
      · (intro w hSw; (try dsimp only at hSw); go_simp; try (with_reducible rfl))
      (try simp only [Act.put, aZ, bZ, cZ, dZ, eZ, fZ])
      refine wpAnyH_take (i := 8) (v := ?_) rfl (by kernel_rfl) (by kernel_rfl) (by kernel_rfl) (fun _ _ _ h => h) (Or.inl ⟨by rfl, ?_⟩) hHeld ?_
      rotate_left
      · (intro w hSw; (try dsimp only at hSw); go_simp; try (with_reducible rfl))
      (try simp only [Act.put, aZ, bZ, cZ, dZ, eZ, fZ])
      refine wpAnyH_take (i := 9) (v := .int .i64 a2) rfl (by kernel_rfl) (by kernel_rfl) (by kernel_rfl) (fun _ _ _ h => h) (Or.inl ⟨by rfl, ?_⟩) hHeld ?_
      · (intro w hSw; (try dsimp only at hSw); go_simp; skip)
      (try simp only [Act.put, aZ, bZ, cZ, dZ, eZ, fZ])
      refine wpAnyH_take (i := 10) (v := ?_) rfl (by kernel_rfl) (by kernel_rfl) (by kernel_rfl) (fun _ _ _ h => h) (Or.inl ⟨by rfl, ?_⟩) hHeld ?_
      rotate_left
      · (intro w hSw; (try dsimp only at hSw); go_simp; try (with_reducible rfl))
      (try simp only [Act.put, aZ, bZ, cZ, dZ, eZ, fZ])
      refine wpAnyH_take (i := 11) (v := ?_) rfl (by kernel_rfl) (by kernel_rfl) (by kernel_rfl) (fun _ _ _ h => h) (Or.inl ⟨by rfl, ?_⟩) hHeld ?_
      rotate_left
      · (intro w hSw; (try dsimp only at hSw); go_simp; try (with_reducible rfl))
      (try simp only [Act.put, aZ, bZ, cZ, dZ, eZ, fZ])
      refine wpAnyH_take (i := 12) (v := .int .i64 a3) rfl (by kernel_rfl) (by kernel_rfl) (by kernel_rfl) (fun _ _ _ h => h) (Or.inl ⟨by rfl, ?_⟩) hHeld ?_
      · (intro w hSw; (try dsimp only at hSw); go_simp; skip)
      (try simp only [Act.put, aZ, bZ, cZ, dZ, eZ, fZ])
      refine wpAnyH_take (i := 13) (v := ?_) rfl (by kernel_rfl) (by kernel_rfl) (by kernel_rfl) (fun _ _ _ h => h) (Or.inl ⟨by rfl, ?_⟩) hHeld ?_
      rotate_left
      · (intro w hSw; (try dsimp only at hSw); go_simp; try (with_reducible rfl))
      (try simp only [Act.put, aZ, bZ, cZ, dZ, eZ, fZ])
      refine wpAnyH_take (i := 14) (v := ?_) rfl (by kernel_rfl) (by kernel_rfl) (by kernel_rfl) (fun _ _ _ h => h) (Or.inl ⟨by rfl, ?_⟩) hHeld ?_
      rotate_left
      · (intro w hSw; (try dsimp only at hSw); go_simp; try (with_reducible rfl))
      (try simp only [Act.put, aZ, bZ, cZ, dZ, eZ, fZ])
      refine wpAnyH_take (i := 15) (v := .int .i64 a0) rfl (by kernel_rfl) (by kernel_rfl) (by kernel_rfl) (fun _ _ _ h => h) (Or.inl ⟨by rfl, ?_⟩) hHeld ?_
      · (intro w hSw; (try dsimp only at hSw); go_simp; skip)
      (try simp only [Act.put, aZ, bZ, cZ, dZ, eZ, fZ])
      refine wpAnyH_take (i := 16) (v := ?_) rfl (by kernel_rfl) (by kernel_rfl) (by kernel_rfl) (fun _ _ _ h => h) (Or.inl ⟨by rfl, ?_⟩) hHeld ?_
      rotate_left
      · (intro w hSw; (try dsimp only at hSw); go_simp; try (with_reducible rfl))
      (try simp only [Act.put, aZ, bZ, cZ, dZ, eZ, fZ])
      refine wpAnyH_take (i := 17) (v := ?_) rfl (by kernel_rfl) (by kernel_rfl) (by kernel_rfl) (fun _ _ _ h => h) (Or.inl ⟨by rfl, ?_⟩) hHeld ?_
      rotate_left
      · (intro w hSw; (try dsimp only at hSw); go_simp; try (with_reducible rfl))
      (try simp only [Act.put, aZ, bZ, cZ, dZ, eZ, fZ])
      refine wpAnyH_take (i := 18) (v := ?_) rfl (by kernel_rfl) (by kernel_rfl) (by kernel_rfl) (fun _ _ _ h => h) (Or.inl ⟨by rfl, ?_⟩) hHeld ?_
      rotate_left
      · (intro w hSw; (try dsimp only at hSw); go_simp; try (with_reducible rfl))
      (try simp only [Act.put, aZ, bZ, cZ, dZ, eZ, fZ])
      refine wpAnyH_take (i := 19) (v := .int .i64 a4) rfl (by kernel_rfl) (by kernel_rfl) (by kernel_rfl) (fun _ _ _ h => h) (Or.inl ⟨by rfl, ?_⟩) hHeld ?_
      · (intro w hSw; (try dsimp only at hSw); go_simp; skip)
      (try simp only [Act.put, aZ, bZ, cZ, dZ, eZ, fZ])
      refine wpAnyH_take (i := 20) (v := ?_) rfl (by kernel_rfl) (by kernel_rfl) (by kernel_rfl) (fun _ _ _ h => h) (Or.inl ⟨by rfl, ?_⟩) hHeld ?_
      rotate_left
      · (intro w hSw; (try dsimp only at hSw); go_simp; try (with_reducible rfl))
      (try simp only [Act.put, aZ, bZ, cZ, dZ, eZ, fZ])
      refine wpAnyH_take (i := 21) (v := ?_) rfl (by kernel_rfl) (by kernel_rfl) (by kernel_rfl) (fun _ _ _ h => h) (Or.inl ⟨by rfl, ?_⟩) hHeld ?_
      rotate_left
      · (intro w hSw; (try dsimp only at hSw); go_simp; try (with_reducible rfl))
      (try simp only [Act.put, aZ, bZ, cZ, dZ, eZ, fZ])
      refine wpAnyH_ready (rs := [22, 23]) (by kernel_rfl) (by simp) ?_
      refine AllReadyH.cons (o := _) rfl (fun K hK => ?_) (AllReadyH.cons (o := _) rfl (fun K hK => ?_) AllReadyH.nil)
      · go_simp
        refine (withChange_any a0 a1 a2 a3 a4 c _ hck).mono ?_
        rintro e w9 ⟨rfl, hb9⟩
        go_wp2_with fail
        refine hK.out _ _ ?_ (fun hHeld2 => ?_)
        · exact kp_step hHeld hb9
        clear hK K hHeld
        have hHeld := hHeld2
        clear hHeld2
        (try simp only [Act.put, aZ, bZ, cZ, dZ, eZ, fZ])
        have hK9 := hHeld
        refine wpAnyH_ready (rs := [23]) (by kernel_rfl) (by simp) ?_
        refine AllReadyH.cons (o := _) rfl (fun K hK => ?_) AllReadyH.nil
        go_simp
        skip
        refine hK.out _ _ ?_ (fun hHeld2 => ?_)
        · exact kp_alloc hHeld _
        clear hK K hHeld
        have hHeld := hHeld2
        clear hHeld2
        (try simp only [Act.put, aZ, bZ, cZ, dZ, eZ, fZ])
        refine wpAnyH_ready (rs := [24]) (by kernel_rfl) (by simp) ?_
        refine AllReadyH.cons (o := _) rfl (fun K hK => ?_) AllReadyH.nil
        go_simp
        skip
        refine hK.out _ _ ?_ (fun hHeld2 => ?_)
        · exact kp_alloc hK9 _
        clear hK K hHeld
        have hHeld := hHeld2
        clear hHeld2
        (try simp only [Act.put, aZ, bZ, cZ, dZ, eZ, fZ])
        refine wpAnyH_done (by kernel_rfl) ?_ _
        clear hK9
        have rpW := uq_new w9 ⟨a0, a1, a2, a3, a0, c.k, a4, c.id, c.pa, c.s, c.st, c.en, c.lv⟩ 47
        have rrW := rr8.below hHeld.1
        have hBW := hB8.trans (hHeld.1.mono hB8.size)
        clear hHeld
        obtain ⟨WW, hWW⟩ : ∃ W, w9.alloc (.cells #[.int .i64 a0, .int .i64 a1, .int .i64 a2, .int .i64 a3, .int .i64 a0, .int .i64 c.k, .int .i64 a4, .int .i64 c.id, .int .i64 c.pa, .string c.s, .int .i64 c.st, .int .i64 c.en, .int .i64 c.lv] 47) = W := ⟨_, rfl⟩
        rw [hWW] at rpW rrW hBW ⊢
        clear hWW
        obtain ⟨p, hp⟩ : ∃ p, Hid (w9.heap.size = p) := ⟨_, rfl⟩
        rw [hp.out] at rpW ⊢
        clear m0 m1 m2 m3 m4
        obtain ⟨c0, c1, c2, c3, c4, c5, c6, c7, c8, c9, c10, c11, c12⟩ := uq_cells rpW
        have cl := rpW.lt
        obtain ⟨b, hb⟩ : ∃ b, Hid (M1.okU ⟨a0, a1, a2, a3, a0, c.k, a4, c.id, c.pa, c.s, c.st, c.en, c.lv⟩ = b) := ⟨_, rfl⟩
        go_upto_region 11 with fail
        go_wp2_with fail
        refine (updateOk_impl _ _ _ _ _ _ _ _ _ _ _ _ _ _ hcs.out).mono ?_
        rw [show M1.updB a0 a1 a2 a3 a0 c.k a4 c.id c.pa c.s c.st c.en c.lv = b from hb.out]
        rintro e w10 ⟨rfl, hb10⟩
        have rp10 := rpW.below hb10
        have rr10 := rrW.below hb10
        have hB10 := hBW.trans (hb10.mono hBW.size)
        clear c0 c1 c2 c3 c4 c5 c6 c7 c8 c9 c10 c11 c12 cl rpW rrW
        cases b with
        | false =>
          have HR : Hid (RdW s.data.toList = .tuple #[.agg #[.int .i64 0, .int .i64 0, .int .i64 0, .int .i64 0, .int .i64 0, .int .i64 0, .int .i64 0, .int .i64 0, .int .i64 0, .string ByteArray.empty, .int .i64 0, .int .i64 0, .int .i64 0], .bool false]) := rdW_none (by rw [HU.down, hb.out]; rfl)
          obtain ⟨r0, r1, r2, r3, r4, r5, r6, r7, r8, r9, r10, r11, r12⟩ := uq_cells rr10
          obtain ⟨y0, y1, y2, y3, y4, y5, y6, y7, y8, y9, y10, y11, y12⟩ := uq_free rr10
          have rl := rr10.lt
          have rz : RowAt (((((((((((((w10.setCell ⟨w.heap.size, 0, none⟩ (.int .i64 0)).setCell ⟨w.heap.size, 1, none⟩ (.int .i64 0)).setCell ⟨w.heap.size, 2, none⟩ (.int .i64 0)).setCell ⟨w.heap.size, 3, none⟩ (.int .i64 0)).setCell ⟨w.heap.size, 4, none⟩ (.int .i64 0)).setCell ⟨w.heap.size, 5, none⟩ (.int .i64 0)).setCell ⟨w.heap.size, 6, none⟩ (.int .i64 0)).setCell ⟨w.heap.size, 7, none⟩ (.int .i64 0)).setCell ⟨w.heap.size, 8, none⟩ (.int .i64 0)).setCell ⟨w.heap.size, 9, none⟩ (.string ⟨#[]⟩)).setCell ⟨w.heap.size, 10, none⟩ (.int .i64 0)).setCell ⟨w.heap.size, 11, none⟩ (.int .i64 0)).setCell ⟨w.heap.size, 12, none⟩ (.int .i64 0)) w.heap.size 13 (uq M1.zeroU) := uq_put rr10 M1.zeroU
          have hBz : Below w.heap.size w (((((((((((((w10.setCell ⟨w.heap.size, 0, none⟩ (.int .i64 0)).setCell ⟨w.heap.size, 1, none⟩ (.int .i64 0)).setCell ⟨w.heap.size, 2, none⟩ (.int .i64 0)).setCell ⟨w.heap.size, 3, none⟩ (.int .i64 0)).setCell ⟨w.heap.size, 4, none⟩ (.int .i64 0)).setCell ⟨w.heap.size, 5, none⟩ (.int .i64 0)).setCell ⟨w.heap.size, 6, none⟩ (.int .i64 0)).setCell ⟨w.heap.size, 7, none⟩ (.int .i64 0)).setCell ⟨w.heap.size, 8, none⟩ (.int .i64 0)).setCell ⟨w.heap.size, 9, none⟩ (.string ⟨#[]⟩)).setCell ⟨w.heap.size, 10, none⟩ (.int .i64 0)).setCell ⟨w.heap.size, 11, none⟩ (.int .i64 0)).setCell ⟨w.heap.size, 12, none⟩ (.int .i64 0)) := bel_put hB10 (Nat.le_refl _) M1.zeroU
          go_wp2_with fail
          clear r0 r1 r2 r3 r4 r5 r6 r7 r8 r9 r10 r11 r12 y0 y1 y2 y3 y4 y5 y6 y7 y8 y9 y10 y11 y12 rr10
          obtain ⟨Wz, hWz⟩ : ∃ W, (((((((((((((w10.setCell ⟨w.heap.size, 0, none⟩ (.int .i64 0)).setCell ⟨w.heap.size, 1, none⟩ (.int .i64 0)).setCell ⟨w.heap.size, 2, none⟩ (.int .i64 0)).setCell ⟨w.heap.size, 3, none⟩ (.int .i64 0)).setCell ⟨w.heap.size, 4, none⟩ (.int .i64 0)).setCell ⟨w.heap.size, 5, none⟩ (.int .i64 0)).setCell ⟨w.heap.size, 6, none⟩ (.int .i64 0)).setCell ⟨w.heap.size, 7, none⟩ (.int .i64 0)).setCell ⟨w.heap.size, 8, none⟩ (.int .i64 0)).setCell ⟨w.heap.size, 9, none⟩ (.string ⟨#[]⟩)).setCell ⟨w.heap.size, 10, none⟩ (.int .i64 0)).setCell ⟨w.heap.size, 11, none⟩ (.int .i64 0)).setCell ⟨w.heap.size, 12, none⟩ (.int .i64 0)) = W := ⟨_, rfl⟩
          rw [hWz] at rz hBz ⊢
          clear hWz
          obtain ⟨v0, v1, v2, v3, v4, v5, v6, v7, v8, v9, v10, v11, v12⟩ := uq_cells rz
          unfold M1.zeroU at v0 v1 v2 v3 v4 v5 v6 v7 v8 v9 v10 v11 v12
          refine bodyPost_ret (v := .tuple #[.agg #[.int .i64 0, .int .i64 0, .int .i64 0, .int .i64 0, .int .i64 0, .int .i64 0, .int .i64 0, .int .i64 0, .int .i64 0, .string ByteArray.empty, .int .i64 0, .int .i64 0, .int .i64 0], .bool false]) (by simp [results, Tryz.results83, go_sem, v0, v1, v2, v3, v4, v5, v6, v7, v8, v9, v10, v11, v12]) rfl ?_
          exact ⟨by rw [HR.out], hBz⟩
        | true =>
          have HR : Hid (RdW s.data.toList = .tuple #[.agg #[.int .i64 a0, .int .i64 a1, .int .i64 a2, .int .i64 a3, .int .i64 a0, .int .i64 c.k, .int .i64 a4, .int .i64 c.id, .int .i64 c.pa, .string c.s, .int .i64 c.st, .int .i64 c.en, .int .i64 c.lv], .bool true]) := rdW_some (u := ⟨a0, a1, a2, a3, a0, c.k, a4, c.id, c.pa, c.s, c.st, c.en, c.lv⟩) (by rw [HU.down, hb.out]; rfl)
          obtain ⟨c0, c1, c2, c3, c4, c5, c6, c7, c8, c9, c10, c11, c12⟩ := uq_cells rp10
          have cl := rp10.lt
          obtain ⟨r0, r1, r2, r3, r4, r5, r6, r7, r8, r9, r10, r11, r12⟩ := uq_cells rr10
          obtain ⟨y0, y1, y2, y3, y4, y5, y6, y7, y8, y9, y10, y11, y12⟩ := uq_free rr10
          have rl := rr10.lt
          have rz : RowAt (((((((((((((w10.setCell ⟨w.heap.size, 0, none⟩ (.int .i64 a0)).setCell ⟨w.heap.size, 1, none⟩ (.int .i64 a1)).setCell ⟨w.heap.size, 2, none⟩ (.int .i64 a2)).setCell ⟨w.heap.size, 3, none⟩ (.int .i64 a3)).setCell ⟨w.heap.size, 4, none⟩ (.int .i64 a0)).setCell ⟨w.heap.size, 5, none⟩ (.int .i64 c.k)).setCell ⟨w.heap.size, 6, none⟩ (.int .i64 a4)).setCell ⟨w.heap.size, 7, none⟩ (.int .i64 c.id)).setCell ⟨w.heap.size, 8, none⟩ (.int .i64 c.pa)).setCell ⟨w.heap.size, 9, none⟩ (.string c.s)).setCell ⟨w.heap.size, 10, none⟩ (.int .i64 c.st)).setCell ⟨w.heap.size, 11, none⟩ (.int .i64 c.en)).setCell ⟨w.heap.size, 12, none⟩ (.int .i64 c.lv)) w.heap.size 13 (uq ⟨a0, a1, a2, a3, a0, c.k, a4, c.id, c.pa, c.s, c.st, c.en, c.lv⟩) := uq_put rr10 ⟨a0, a1, a2, a3, a0, c.k, a4, c.id, c.pa, c.s, c.st, c.en, c.lv⟩
          have hBz : Below w.heap.size w (((((((((((((w10.setCell ⟨w.heap.size, 0, none⟩ (.int .i64 a0)).setCell ⟨w.heap.size, 1, none⟩ (.int .i64 a1)).setCell ⟨w.heap.size, 2, none⟩ (.int .i64 a2)).setCell ⟨w.heap.size, 3, none⟩ (.int .i64 a3)).setCell ⟨w.heap.size, 4, none⟩ (.int .i64 a0)).setCell ⟨w.heap.size, 5, none⟩ (.int .i64 c.k)).setCell ⟨w.heap.size, 6, none⟩ (.int .i64 a4)).setCell ⟨w.heap.size, 7, none⟩ (.int .i64 c.id)).setCell ⟨w.heap.size, 8, none⟩ (.int .i64 c.pa)).setCell ⟨w.heap.size, 9, none⟩ (.string c.s)).setCell ⟨w.heap.size, 10, none⟩ (.int .i64 c.st)).setCell ⟨w.heap.size, 11, none⟩ (.int .i64 c.en)).setCell ⟨w.heap.size, 12, none⟩ (.int .i64 c.lv)) := bel_put hB10 (Nat.le_refl _) ⟨a0, a1, a2, a3, a0, c.k, a4, c.id, c.pa, c.s, c.st, c.en, c.lv⟩
          go_wp2_with fail
          clear r0 r1 r2 r3 r4 r5 r6 r7 r8 r9 r10 r11 r12 y0 y1 y2 y3 y4 y5 y6 y7 y8 y9 y10 y11 y12 rr10 rp10 cl c0 c1 c2 c3 c4 c5 c6 c7 c8 c9 c10 c11 c12
          obtain ⟨Wz, hWz⟩ : ∃ W, (((((((((((((w10.setCell ⟨w.heap.size, 0, none⟩ (.int .i64 a0)).setCell ⟨w.heap.size, 1, none⟩ (.int .i64 a1)).setCell ⟨w.heap.size, 2, none⟩ (.int .i64 a2)).setCell ⟨w.heap.size, 3, none⟩ (.int .i64 a3)).setCell ⟨w.heap.size, 4, none⟩ (.int .i64 a0)).setCell ⟨w.heap.size, 5, none⟩ (.int .i64 c.k)).setCell ⟨w.heap.size, 6, none⟩ (.int .i64 a4)).setCell ⟨w.heap.size, 7, none⟩ (.int .i64 c.id)).setCell ⟨w.heap.size, 8, none⟩ (.int .i64 c.pa)).setCell ⟨w.heap.size, 9, none⟩ (.string c.s)).setCell ⟨w.heap.size, 10, none⟩ (.int .i64 c.st)).setCell ⟨w.heap.size, 11, none⟩ (.int .i64 c.en)).setCell ⟨w.heap.size, 12, none⟩ (.int .i64 c.lv)) = W := ⟨_, rfl⟩
          rw [hWz] at rz hBz ⊢
          clear hWz
          obtain ⟨v0, v1, v2, v3, v4, v5, v6, v7, v8, v9, v10, v11, v12⟩ := uq_cells rz
          refine bodyPost_ret (v := .tuple #[.agg #[.int .i64 a0, .int .i64 a1, .int .i64 a2, .int .i64 a3, .int .i64 a0, .int .i64 c.k, .int .i64 a4, .int .i64 c.id, .int .i64 c.pa, .string c.s, .int .i64 c.st, .int .i64 c.en, .int .i64 c.lv], .bool true]) (by simp [results, Tryz.results83, go_sem, v0, v1, v2, v3, v4, v5, v6, v7, v8, v9, v10, v11, v12]) rfl ?_
          exact ⟨by rw [HR.out], hBz⟩
      · go_simp
        refine hK.out _ _ ?_ (fun hHeld2 => ?_)
        · exact kp_alloc hHeld _
        clear hK K hHeld
        have hHeld := hHeld2
        clear hHeld2
        (try simp only [Act.put, aZ, bZ, cZ, dZ, eZ, fZ])
        refine wpAnyH_ready (rs := [22]) (by kernel_rfl) (by simp) ?_
        refine AllReadyH.cons (o := _) rfl (fun K hK => ?_) AllReadyH.nil
        go_simp
        (refine (withChange_any a0 a1 a2 a3 a4 c _ hck).mono ?_; rintro e w9 ⟨rfl, hb9⟩; go_wp2_with fail)
        refine hK.out _ _ ?_ (fun hHeld2 => ?_)
        · exact kp_step hHeld hb9
        clear hK K hHeld
        have hHeld := hHeld2
        clear hHeld2
        (try simp only [Act.put, aZ, bZ, cZ, dZ, eZ, fZ])
        have rb := uq_new w8.drew ⟨0, 0, 0, 0, 0, 0, 0, 0, 0, ⟨#[]⟩, 0, 0, 0⟩ 47
        have rp9 := rb.below hb9
        clear rb
        obtain ⟨c0, c1, c2, c3, c4, c5, c6, c7, c8, c9, c10, c11, c12⟩ := uq_cells rp9
        obtain ⟨z0, z1, z2, z3, z4, z5, z6, z7, z8, z9, z10, z11, z12⟩ := uq_free rp9
        have cl := rp9.lt
        simp at c0 c1 c2 c3 c4 c5 c6 c7 c8 c9 c10 c11 c12 z0 z1 z2 z3 z4 z5 z6 z7 z8 z9 z10 z11 z12 cl
        refine wpAnyH_ready (rs := [24]) (by kernel_rfl) (by simp) ?_
        refine AllReadyH.cons (o := _) rfl (fun K hK => ?_) AllReadyH.nil
        go_simp
        skip
        refine hK.out _ _ ?_ (fun hHeld2 => ?_)
        · exact kp_of (bel_put hHeld.1 (Nat.le_refl _) ⟨a0, a1, a2, a3, a0, c.k, a4, c.id, c.pa, c.s, c.st, c.en, c.lv⟩)
        clear hK K hHeld
        have hHeld := hHeld2
        clear hHeld2
        (try simp only [Act.put, aZ, bZ, cZ, dZ, eZ, fZ])
        refine wpAnyH_done (by kernel_rfl) ?_ _
        clear c0 c1 c2 c3 c4 c5 c6 c7 c8 c9 c10 c11 c12 z0 z1 z2 z3 z4 z5 z6 z7 z8 z9 z10 z11 z12 cl
        have rpW : RowAt (((((((((((((w9.setCell ⟨w8.heap.size, 0, none⟩ (.int .i64 a0)).setCell ⟨w8.heap.size, 1, none⟩ (.int .i64 a1)).setCell ⟨w8.heap.size, 2, none⟩ (.int .i64 a2)).setCell ⟨w8.heap.size, 3, none⟩ (.int .i64 a3)).setCell ⟨w8.heap.size, 4, none⟩ (.int .i64 a0)).setCell ⟨w8.heap.size, 5, none⟩ (.int .i64 c.k)).setCell ⟨w8.heap.size, 6, none⟩ (.int .i64 a4)).setCell ⟨w8.heap.size, 7, none⟩ (.int .i64 c.id)).setCell ⟨w8.heap.size, 8, none⟩ (.int .i64 c.pa)).setCell ⟨w8.heap.size, 9, none⟩ (.string c.s)).setCell ⟨w8.heap.size, 10, none⟩ (.int .i64 c.st)).setCell ⟨w8.heap.size, 11, none⟩ (.int .i64 c.en)).setCell ⟨w8.heap.size, 12, none⟩ (.int .i64 c.lv)) w8.heap.size 13 (uq ⟨a0, a1, a2, a3, a0, c.k, a4, c.id, c.pa, c.s, c.st, c.en, c.lv⟩) := uq_put rp9 ⟨a0, a1, a2, a3, a0, c.k, a4, c.id, c.pa, c.s, c.st, c.en, c.lv⟩
        have rrW := rr8.below hHeld.1
        have hBW := hB8.trans (hHeld.1.mono hB8.size)
        clear hHeld
        obtain ⟨WW, hWW⟩ : ∃ W, (((((((((((((w9.setCell ⟨w8.heap.size, 0, none⟩ (.int .i64 a0)).setCell ⟨w8.heap.size, 1, none⟩ (.int .i64 a1)).setCell ⟨w8.heap.size, 2, none⟩ (.int .i64 a2)).setCell ⟨w8.heap.size, 3, none⟩ (.int .i64 a3)).setCell ⟨w8.heap.size, 4, none⟩ (.int .i64 a0)).setCell ⟨w8.heap.size, 5, none⟩ (.int .i64 c.k)).setCell ⟨w8.heap.size, 6, none⟩ (.int .i64 a4)).setCell ⟨w8.heap.size, 7, none⟩ (.int .i64 c.id)).setCell ⟨w8.heap.size, 8, none⟩ (.int .i64 c.pa)).setCell ⟨w8.heap.size, 9, none⟩ (.string c.s)).setCell ⟨w8.heap.size, 10, none⟩ (.int .i64 c.st)).setCell ⟨w8.heap.size, 11, none⟩ (.int .i64 c.en)).setCell ⟨w8.heap.size, 12, none⟩ (.int .i64 c.lv)) = W := ⟨_, rfl⟩
        rw [hWW] at rpW rrW hBW ⊢
        clear hWW rp9
        obtain ⟨p, hp⟩ : ∃ p, Hid (w8.heap.size = p) := ⟨_, rfl⟩
        rw [hp.out] at rpW ⊢
        clear m0 m1 m2 m3 m4
        obtain ⟨c0, c1, c2, c3, c4, c5, c6, c7, c8, c9, c10, c11, c12⟩ := uq_cells rpW
        have cl := rpW.lt
        obtain ⟨b, hb⟩ : ∃ b, Hid (M1.okU ⟨a0, a1, a2, a3, a0, c.k, a4, c.id, c.pa, c.s, c.st, c.en, c.lv⟩ = b) := ⟨_, rfl⟩
        go_upto_region 11 with fail
        go_wp2_with fail
        refine (updateOk_impl _ _ _ _ _ _ _ _ _ _ _ _ _ _ hcs.out).mono ?_
        rw [show M1.updB a0 a1 a2 a3 a0 c.k a4 c.id c.pa c.s c.st c.en c.lv = b from hb.out]
        rintro e w10 ⟨rfl, hb10⟩
        have rp10 := rpW.below hb10
        have rr10 := rrW.below hb10
        have hB10 := hBW.trans (hb10.mono hBW.size)
        clear c0 c1 c2 c3 c4 c5 c6 c7 c8 c9 c10 c11 c12 cl rpW rrW
        cases b with
        | false =>
          have HR : Hid (RdW s.data.toList = .tuple #[.agg #[.int .i64 0, .int .i64 0, .int .i64 0, .int .i64 0, .int .i64 0, .int .i64 0, .int .i64 0, .int .i64 0, .int .i64 0, .string ByteArray.empty, .int .i64 0, .int .i64 0, .int .i64 0], .bool false]) := rdW_none (by rw [HU.down, hb.out]; rfl)
          obtain ⟨r0, r1, r2, r3, r4, r5, r6, r7, r8, r9, r10, r11, r12⟩ := uq_cells rr10
          obtain ⟨y0, y1, y2, y3, y4, y5, y6, y7, y8, y9, y10, y11, y12⟩ := uq_free rr10
          have rl := rr10.lt
          have rz : RowAt (((((((((((((w10.setCell ⟨w.heap.size, 0, none⟩ (.int .i64 0)).setCell ⟨w.heap.size, 1, none⟩ (.int .i64 0)).setCell ⟨w.heap.size, 2, none⟩ (.int .i64 0)).setCell ⟨w.heap.size, 3, none⟩ (.int .i64 0)).setCell ⟨w.heap.size, 4, none⟩ (.int .i64 0)).setCell ⟨w.heap.size, 5, none⟩ (.int .i64 0)).setCell ⟨w.heap.size, 6, none⟩ (.int .i64 0)).setCell ⟨w.heap.size, 7, none⟩ (.int .i64 0)).setCell ⟨w.heap.size, 8, none⟩ (.int .i64 0)).setCell ⟨w.heap.size, 9, none⟩ (.string ⟨#[]⟩)).setCell ⟨w.heap.size, 10, none⟩ (.int .i64 0)).setCell ⟨w.heap.size, 11, none⟩ (.int .i64 0)).setCell ⟨w.heap.size, 12, none⟩ (.int .i64 0)) w.heap.size 13 (uq M1.zeroU) := uq_put rr10 M1.zeroU
          have hBz : Below w.heap.size w (((((((((((((w10.setCell ⟨w.heap.size, 0, none⟩ (.int .i64 0)).setCell ⟨w.heap.size, 1, none⟩ (.int .i64 0)).setCell ⟨w.heap.size, 2, none⟩ (.int .i64 0)).setCell ⟨w.heap.size, 3, none⟩ (.int .i64 0)).setCell ⟨w.heap.size, 4, none⟩ (.int .i64 0)).setCell ⟨w.heap.size, 5, none⟩ (.int .i64 0)).setCell ⟨w.heap.size, 6, none⟩ (.int .i64 0)).setCell ⟨w.heap.size, 7, none⟩ (.int .i64 0)).setCell ⟨w.heap.size, 8, none⟩ (.int .i64 0)).setCell ⟨w.heap.size, 9, none⟩ (.string ⟨#[]⟩)).setCell ⟨w.heap.size, 10, none⟩ (.int .i64 0)).setCell ⟨w.heap.size, 11, none⟩ (.int .i64 0)).setCell ⟨w.heap.size, 12, none⟩ (.int .i64 0)) := bel_put hB10 (Nat.le_refl _) M1.zeroU
          go_wp2_with fail
          clear r0 r1 r2 r3 r4 r5 r6 r7 r8 r9 r10 r11 r12 y0 y1 y2 y3 y4 y5 y6 y7 y8 y9 y10 y11 y12 rr10
          obtain ⟨Wz, hWz⟩ : ∃ W, (((((((((((((w10.setCell ⟨w.heap.size, 0, none⟩ (.int .i64 0)).setCell ⟨w.heap.size, 1, none⟩ (.int .i64 0)).setCell ⟨w.heap.size, 2, none⟩ (.int .i64 0)).setCell ⟨w.heap.size, 3, none⟩ (.int .i64 0)).setCell ⟨w.heap.size, 4, none⟩ (.int .i64 0)).setCell ⟨w.heap.size, 5, none⟩ (.int .i64 0)).setCell ⟨w.heap.size, 6, none⟩ (.int .i64 0)).setCell ⟨w.heap.size, 7, none⟩ (.int .i64 0)).setCell ⟨w.heap.size, 8, none⟩ (.int .i64 0)).setCell ⟨w.heap.size, 9, none⟩ (.string ⟨#[]⟩)).setCell ⟨w.heap.size, 10, none⟩ (.int .i64 0)).setCell ⟨w.heap.size, 11, none⟩ (.int .i64 0)).setCell ⟨w.heap.size, 12, none⟩ (.int .i64 0)) = W := ⟨_, rfl⟩
          rw [hWz] at rz hBz ⊢
          clear hWz
          obtain ⟨v0, v1, v2, v3, v4, v5, v6, v7, v8, v9, v10, v11, v12⟩ := uq_cells rz
          unfold M1.zeroU at v0 v1 v2 v3 v4 v5 v6 v7 v8 v9 v10 v11 v12
          refine bodyPost_ret (v := .tuple #[.agg #[.int .i64 0, .int .i64 0, .int .i64 0, .int .i64 0, .int .i64 0, .int .i64 0, .int .i64 0, .int .i64 0, .int .i64 0, .string ByteArray.empty, .int .i64 0, .int .i64 0, .int .i64 0], .bool false]) (by simp [results, Tryz.results83, go_sem, v0, v1, v2, v3, v4, v5, v6, v7, v8, v9, v10, v11, v12]) rfl ?_
          exact ⟨by rw [HR.out], hBz⟩
        | true =>
          have HR : Hid (RdW s.data.toList = .tuple #[.agg #[.int .i64 a0, .int .i64 a1, .int .i64 a2, .int .i64 a3, .int .i64 a0, .int .i64 c.k, .int .i64 a4, .int .i64 c.id, .int .i64 c.pa, .string c.s, .int .i64 c.st, .int .i64 c.en, .int .i64 c.lv], .bool true]) := rdW_some (u := ⟨a0, a1, a2, a3, a0, c.k, a4, c.id, c.pa, c.s, c.st, c.en, c.lv⟩) (by rw [HU.down, hb.out]; rfl)
          obtain ⟨c0, c1, c2, c3, c4, c5, c6, c7, c8, c9, c10, c11, c12⟩ := uq_cells rp10
          have cl := rp10.lt
          obtain ⟨r0, r1, r2, r3, r4, r5, r6, r7, r8, r9, r10, r11, r12⟩ := uq_cells rr10
          obtain ⟨y0, y1, y2, y3, y4, y5, y6, y7, y8, y9, y10, y11, y12⟩ := uq_free rr10
          have rl := rr10.lt
          have rz : RowAt (((((((((((((w10.setCell ⟨w.heap.size, 0, none⟩ (.int .i64 a0)).setCell ⟨w.heap.size, 1, none⟩ (.int .i64 a1)).setCell ⟨w.heap.size, 2, none⟩ (.int .i64 a2)).setCell ⟨w.heap.size, 3, none⟩ (.int .i64 a3)).setCell ⟨w.heap.size, 4, none⟩ (.int .i64 a0)).setCell ⟨w.heap.size, 5, none⟩ (.int .i64 c.k)).setCell ⟨w.heap.size, 6, none⟩ (.int .i64 a4)).setCell ⟨w.heap.size, 7, none⟩ (.int .i64 c.id)).setCell ⟨w.heap.size, 8, none⟩ (.int .i64 c.pa)).setCell ⟨w.heap.size, 9, none⟩ (.string c.s)).setCell ⟨w.heap.size, 10, none⟩ (.int .i64 c.st)).setCell ⟨w.heap.size, 11, none⟩ (.int .i64 c.en)).setCell ⟨w.heap.size, 12, none⟩ (.int .i64 c.lv)) w.heap.size 13 (uq ⟨a0, a1, a2, a3, a0, c.k, a4, c.id, c.pa, c.s, c.st, c.en, c.lv⟩) := uq_put rr10 ⟨a0, a1, a2, a3, a0, c.k, a4, c.id, c.pa, c.s, c.st, c.en, c.lv⟩
          have hBz : Below w.heap.size w (((((((((((((w10.setCell ⟨w.heap.size, 0, none⟩ (.int .i64 a0)).setCell ⟨w.heap.size, 1, none⟩ (.int .i64 a1)).setCell ⟨w.heap.size, 2, none⟩ (.int .i64 a2)).setCell ⟨w.heap.size, 3, none⟩ (.int .i64 a3)).setCell ⟨w.heap.size, 4, none⟩ (.int .i64 a0)).setCell ⟨w.heap.size, 5, none⟩ (.int .i64 c.k)).setCell ⟨w.heap.size, 6, none⟩ (.int .i64 a4)).setCell ⟨w.heap.size, 7, none⟩ (.int .i64 c.id)).setCell ⟨w.heap.size, 8, none⟩ (.int .i64 c.pa)).setCell ⟨w.heap.size, 9, none⟩ (.string c.s)).setCell ⟨w.heap.size, 10, none⟩ (.int .i64 c.st)).setCell ⟨w.heap.size, 11, none⟩ (.int .i64 c.en)).setCell ⟨w.heap.size, 12, none⟩ (.int .i64 c.lv)) := bel_put hB10 (Nat.le_refl _) ⟨a0, a1, a2, a3, a0, c.k, a4, c.id, c.pa, c.s, c.st, c.en, c.lv⟩
          go_wp2_with fail
          clear r0 r1 r2 r3 r4 r5 r6 r7 r8 r9 r10 r11 r12 y0 y1 y2 y3 y4 y5 y6 y7 y8 y9 y10 y11 y12 rr10 rp10 cl c0 c1 c2 c3 c4 c5 c6 c7 c8 c9 c10 c11 c12
          obtain ⟨Wz, hWz⟩ : ∃ W, (((((((((((((w10.setCell ⟨w.heap.size, 0, none⟩ (.int .i64 a0)).setCell ⟨w.heap.size, 1, none⟩ (.int .i64 a1)).setCell ⟨w.heap.size, 2, none⟩ (.int .i64 a2)).setCell ⟨w.heap.size, 3, none⟩ (.int .i64 a3)).setCell ⟨w.heap.size, 4, none⟩ (.int .i64 a0)).setCell ⟨w.heap.size, 5, none⟩ (.int .i64 c.k)).setCell ⟨w.heap.size, 6, none⟩ (.int .i64 a4)).setCell ⟨w.heap.size, 7, none⟩ (.int .i64 c.id)).setCell ⟨w.heap.size, 8, none⟩ (.int .i64 c.pa)).setCell ⟨w.heap.size, 9, none⟩ (.string c.s)).setCell ⟨w.heap.size, 10, none⟩ (.int .i64 c.st)).setCell ⟨w.heap.size, 11, none⟩ (.int .i64 c.en)).setCell ⟨w.heap.size, 12, none⟩ (.int .i64 c.lv)) = W := ⟨_, rfl⟩
          rw [hWz] at rz hBz ⊢
          clear hWz
          obtain ⟨v0, v1, v2, v3, v4, v5, v6, v7, v8, v9, v10, v11, v12⟩ := uq_cells rz
          refine bodyPost_ret (v := .tuple #[.agg #[.int .i64 a0, .int .i64 a1, .int .i64 a2, .int .i64 a3, .int .i64 a0, .int .i64 c.k, .int .i64 a4, .int .i64 c.id, .int .i64 c.pa, .string c.s, .int .i64 c.st, .int .i64 c.en, .int .i64 c.lv], .bool true]) (by simp [results, Tryz.results83, go_sem, v0, v1, v2, v3, v4, v5, v6, v7, v8, v9, v10, v11, v12]) rfl ?_
          exact ⟨by rw [HR.out], hBz⟩
end Go.Proofs.YtbhidjagmonnaaaGreatDoor
