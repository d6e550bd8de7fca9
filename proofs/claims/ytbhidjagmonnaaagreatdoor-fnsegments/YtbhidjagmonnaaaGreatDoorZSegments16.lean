/-
  Texts of one proof, joined: Tx3.
-/
import Derived.Test.YtbhidjagmonnaaaGreatDoorZSegments14
namespace Go.Proofs.YtbhidjagmonnaaaGreatDoor
open Go.ChangeShapes Go.WideShapes Go.ChangeAt Go.RowKit Go.Shelf Go.Sort
set_option linter.unusedSimpArgs false
set_option linter.unusedVariables false

theorem tab_more {P : Program} {B B' : Nat} {w : World} {name : String} {k : IntKind} {zs : List Int} (h : Lib.TabBelow P B w name k zs) (hB : B ≤ B') : Lib.TabBelow P B' w name k zs := fun w' hb => h w' (hb.mono hB)
theorem join_cells {w : World} {base n cap g : Nat} {xs : List ByteArray} (h : w.ownsRow base 9 1 (.slice (some ⟨g, 0, none⟩) n cap) n (sV xs)) : ∀ (j : Nat) x, xs[j]? = some x → w.cell? ⟨g, 0 + j, none⟩ = some (.string x) := by
  intro j x hx
  obtain ⟨h1, h2⟩ := h
  rcases h2 with ⟨e1, _⟩ | ⟨g2, cap2, cur, e1, _, hh, hn, _, hz, ht⟩
  · cases e1
  · injection e1 with a1 _ _
    injection a1 with a1; injection a1 with a1 _ _
    subst a1
    have hj := (List.getElem?_eq_some_iff.1 hx).1
    have hl : xs.length = n * 1 := by simpa [sV] using h1
    have e2 : (sV xs)[j]? = some (.string x) := by simp [sV, hx]
    rw [← ht, List.getElem?_take_of_lt (by omega)] at e2
    rw [Nat.zero_add]
    simp only [World.cell?, hh]
    simpa using e2

set_option maxHeartbeats 8000000 in
set_option maxRecDepth 100000 in
theorem ut_span (u : M1.Upd) (w : World) (hs : u.s.size ≤ maxLen) (ok : M1.okU u = true) (hk : u.k = 1) (tab : Tab w.heap.size w) :
    Calls Tryz.prog 27 #[.agg #[.int .i64 u.dr, .int .i64 u.dn, .int .i64 u.sw, .int .i64 u.sc, .int .i64 u.sr, .int .i64 1, .int .i64 u.tr, .int .i64 u.id, .int .i64 u.pa, .string u.s, .int .i64 u.st, .int .i64 u.en, .int .i64 u.lv]] w fun e w' => e = .returned (.string (M1.mkB (M1.txt u))) ∧ Below w.heap.size w w' := by
  obtain ⟨n5, n4, n1, _⟩ := okU_nine ok
  have N5 : Hid (∀ n ∈ M1.ns5 u, M1.nine n) := n5
  have HLT : Hid ((M1.txt u).length ≤ 200) := M1.txt_len ok
  have HOK : Hid (M1.updB u.dr u.dn u.sw u.sc u.sr 1 u.tr u.id u.pa u.s u.st u.en u.lv = true) := (by rw [← hk]; exact ok : _ = _)
  have HCH : Hid ((u.lv == 0) = true) := (by
    have h := (M1.okU_fields ok).2.2.2.2
    unfold M1.kindB at h
    rw [if_pos hk] at h
    simp only [Bool.and_eq_true] at h
    exact h.2 : _ = _)
  have N4 : Hid (∀ n ∈ [u.id, u.pa, u.st, u.en], M1.nine n) := n4 hk
  have hA : Below w.heap.size w (w.alloc (.cells #[.int .i64 u.dr, .int .i64 u.dn, .int .i64 u.sw, .int .i64 u.sc, .int .i64 u.sr, .int .i64 1, .int .i64 u.tr, .int .i64 u.id, .int .i64 u.pa, .string u.s, .int .i64 u.st, .int .i64 u.en, .int .i64 u.lv] 47)) := (Below.refl _ _).alloc (Nat.le_refl _) _
  have row0 : RowAt (w.alloc (.cells #[.int .i64 u.dr, .int .i64 u.dn, .int .i64 u.sw, .int .i64 u.sc, .int .i64 u.sr, .int .i64 1, .int .i64 u.tr, .int .i64 u.id, .int .i64 u.pa, .string u.s, .int .i64 u.st, .int .i64 u.en, .int .i64 u.lv] 47)) w.heap.size 13 (fun o => (#[.int .i64 u.dr, .int .i64 u.dn, .int .i64 u.sw, .int .i64 u.sc, .int .i64 u.sr, .int .i64 1, .int .i64 u.tr, .int .i64 u.id, .int .i64 u.pa, .string u.s, .int .i64 u.st, .int .i64 u.en, .int .i64 u.lv] : Array Value).getD o undef) := RowAt.new w _ _
  have hm : ∀ w, (method 199 98 (.agg #[.int .i64 u.id, .int .i64 u.pa, .string u.s, .int .i64 u.st, .int .i64 u.en]) "loop.example/g00368/impl.word").run Tryz.prog w = .ok (168, (.agg #[.int .i64 u.id, .int .i64 u.pa, .string u.s, .int .i64 u.st, .int .i64 u.en])) w := fun _ => by kernel_rfl
  have HTX : Hid (M1.txt u = Lib.join (M1.wrd u) [32]) := (M1.join_wrd u).symm
  have HW : Hid (([(⟨#[115, 112, 97, 110]⟩ : ByteArray)] ++ dW (M1.ns5 u) ++ dW [u.id, u.pa, u.st, u.en] ++ [u.s]).map (fun x : ByteArray => x.data.toList) = M1.wrd u) := (by unfold M1.wrd dW M1.ns5; simp [hk, M1.mkB, M1.wSpan] : _ = _)
  clear hk
  go_enter Tryz.func27, Tryz.ntmps27
  go_upto_region 1 with fail
  obtain ⟨W0, hW0⟩ : ∃ W, w.alloc (.cells #[.int .i64 u.dr, .int .i64 u.dn, .int .i64 u.sw, .int .i64 u.sc, .int .i64 u.sr, .int .i64 1, .int .i64 u.tr, .int .i64 u.id, .int .i64 u.pa, .string u.s, .int .i64 u.st, .int .i64 u.en, .int .i64 u.lv] 47) = W := ⟨_, rfl⟩
  rw [hW0] at hA row0 ⊢
  clear hW0
  have c0 := row0.cell (o := 0) (by omega)
  have c1 := row0.cell (o := 1) (by omega)
  have c2 := row0.cell (o := 2) (by omega)
  have c3 := row0.cell (o := 3) (by omega)
  have c4 := row0.cell (o := 4) (by omega)
  have c5 := row0.cell (o := 5) (by omega)
  have c6 := row0.cell (o := 6) (by omega)
  have c7 := row0.cell (o := 7) (by omega)
  have c8 := row0.cell (o := 8) (by omega)
  have c9 := row0.cell (o := 9) (by omega)
  have c10 := row0.cell (o := 10) (by omega)
  have c11 := row0.cell (o := 11) (by omega)
  have c12 := row0.cell (o := 12) (by omega)
  simp at c0 c1 c2 c3 c4 c5 c6 c7 c8 c9 c10 c11 c12
  have cl := row0.lt
  go_wp2_with fail
  refine (changeOf_1 u.dr u.dn u.sw u.sc u.sr u.tr u.id u.pa u.st u.en u.lv u.s _).mono ?_
  rw [HCH.out]
  rintro e w1 ⟨rfl, hb1⟩
  have row1 := row0.below hb1
  have hB1 := hA.trans (hb1.mono hA.size)
  clear c0 c1 c2 c3 c4 c5 c6 c7 c8 c9 c10 c11 c12 cl hb1 row0
  have c0 := row1.cell (o := 0) (by omega)
  have c1 := row1.cell (o := 1) (by omega)
  have c2 := row1.cell (o := 2) (by omega)
  have c3 := row1.cell (o := 3) (by omega)
  have c4 := row1.cell (o := 4) (by omega)
  have c5 := row1.cell (o := 5) (by omega)
  have c6 := row1.cell (o := 6) (by omega)
  have c7 := row1.cell (o := 7) (by omega)
  have c8 := row1.cell (o := 8) (by omega)
  have c9 := row1.cell (o := 9) (by omega)
  have c10 := row1.cell (o := 10) (by omega)
  have c11 := row1.cell (o := 11) (by omega)
  have c12 := row1.cell (o := 12) (by omega)
  simp at c0 c1 c2 c3 c4 c5 c6 c7 c8 c9 c10 c11 c12
  have cl := row1.lt
  go_wp2_with fail
  refine (updateOk_impl u.dr u.dn u.sw u.sc u.sr 1 u.tr u.id u.pa u.st u.en u.lv u.s _ hs).mono ?_
  rw [HOK.out]
  rintro e w2 ⟨rfl, hb2⟩
  have row2 := row1.below hb2
  have hB2 := hB1.trans (hb2.mono hB1.size)
  clear c0 c1 c2 c3 c4 c5 c6 c7 c8 c9 c10 c11 c12 cl hb2 row1 hB1
  go_wp2_with fail
  refine (word_span _ _ _ _ _ _).mono ?_
  rintro e w3 ⟨rfl, hb3⟩
  have row3 := row2.below hb3
  have hB3 := hB2.trans (hb3.mono hB2.size)
  clear hb3 row2 hB2
  have ow4 := ownsS_one w3 9 ⟨#[115, 112, 97, 110]⟩
  have hA4 : Below w3.heap.size w3 (w3.alloc (.cells #[.string ⟨#[115, 112, 97, 110]⟩] 9)) := (Below.refl _ _).alloc (Nat.le_refl _) _
  have row4 := row3.below hA4
  have hs3 := hB3.size
  have hb3l := row3.lt
  go_upto_region 5 with fail
  obtain ⟨w4, hw4⟩ : ∃ W, w3.alloc (.cells #[.string ⟨#[115, 112, 97, 110]⟩] 9) = W := ⟨_, rfl⟩
  rw [hw4] at ow4 hA4 row4 ⊢
  clear hw4 row3
  have hs4 := hA4.size
  have hB4 := hB3.trans (hA4.mono hs3)
  have c0 := row4.cell (o := 0) (by omega)
  have c1 := row4.cell (o := 1) (by omega)
  have c2 := row4.cell (o := 2) (by omega)
  have c3 := row4.cell (o := 3) (by omega)
  have c4 := row4.cell (o := 4) (by omega)
  have c5 := row4.cell (o := 5) (by omega)
  have c6 := row4.cell (o := 6) (by omega)
  have c7 := row4.cell (o := 7) (by omega)
  have c8 := row4.cell (o := 8) (by omega)
  have c9 := row4.cell (o := 9) (by omega)
  have c10 := row4.cell (o := 10) (by omega)
  have c11 := row4.cell (o := 11) (by omega)
  have c12 := row4.cell (o := 12) (by omega)
  simp at c0 c1 c2 c3 c4 c5 c6 c7 c8 c9 c10 c11 c12
  have cl := row4.lt
  have nb : NumB (w4.alloc (.cells #[.int .i64 u.dr, .int .i64 u.dn, .int .i64 u.sw, .int .i64 u.sc, .int .i64 u.tr] 2)) w4.heap.size (M1.ns5 u) := NumB.new w4 (M1.ns5 u)
  have hA5 : Below w4.heap.size w4 (w4.alloc (.cells #[.int .i64 u.dr, .int .i64 u.dn, .int .i64 u.sw, .int .i64 u.sc, .int .i64 u.tr] 2)) := (Below.refl _ _).alloc (Nat.le_refl _) _
  have ow5 := owns_below ow4 hA5
  have hs5 := hA5.size
  have hB5 := hB4.trans (hA5.mono (by omega))
  have tab5 := tab_more (B' := w3.heap.size) (tab.on hB5) (by omega)
  go_wp2_with fail
  refine (withDecimals_any w3.heap.size _ _ 1 [(⟨#[115, 112, 97, 110]⟩ : ByteArray)] w4.heap.size 5 (M1.ns5 u) _ ow5 nb rfl (by omega) (by omega) N5 (by omega) tab5).mono ?_
  rintro e w6 ⟨a6, k6, rfl, ow6, gv6⟩
  have hs6 := gv6.size
  have hB6 := hB5.trans ((gv6.to_below (B := w3.heap.size) (by omega) (owns_base ow5)).mono (by omega))
  have tab6 := tab_more (B' := w3.heap.size) (tab.on hB6) (by omega)
  clear c0 c1 c2 c3 c4 c5 c6 c7 c8 c9 c10 c11 c12 cl nb hA5 ow5 gv6 ow4 hA4 row4 tab5
  go_wp2_with fail
  refine (wcw_span w3.heap.size _ _ 6 _ u.id u.pa u.st u.en u.s _ ow6 (by omega) N4 (by omega) tab6).mono ?_
  rintro e w7 ⟨a7, k7, rfl, ow7, gv7⟩
  have hB7 := hB6.trans ((gv7.to_below (B := w3.heap.size) (by omega) (owns_base ow6)).mono (by omega))
  rcases ow7.2 with ⟨e0, h0⟩ | ⟨g7, cap7, cur7, e0, hg7, hh7, hn7, hm7, hz7, ht7⟩
  · omega
  injection e0 with e1 _ e3
  subst e1; subst e3
  have cj : Calls Tryz.prog 51 #[.slice (some ⟨g7, 0, none⟩) (6 + 4 + 1) k7, .string ⟨#[32]⟩] w7 fun e w' => e = .returned (.string (M1.mkB (M1.txt u))) ∧ Below w7.heap.size w7 w' := by
    have q := Any.strings_Join Tryz.layJoin laysExtra g7 0 k7 ([(⟨#[115, 112, 97, 110]⟩ : ByteArray)] ++ dW (M1.ns5 u) ++ dW [u.id, u.pa, u.st, u.en] ++ [u.s]) ⟨#[32]⟩ w7 (join_cells ow7) (Array.getElem?_eq_some_iff.1 hh7).1 (by simp [dW, M1.ns5]) (by simpa [dW, M1.ns5] using hn7) (by rw [HW.out]; have h1 := HLT.out; rw [HTX.out] at h1; exact Nat.le_trans h1 (by omega))
    rw [HW.out] at q
    rw [HTX.out]
    exact q
  go_wp2_with fail
  refine cj.mono ?_
  clear cj
  rintro e w8 ⟨rfl, hb8⟩
  have hB8 := hB7.trans (hb8.mono hB7.size)
  go_wp2_with fail
  go_ret
  exact ⟨rfl, hB8⟩

set_option maxHeartbeats 8000000 in
set_option maxRecDepth 100000 in
theorem ut_keep (u : M1.Upd) (w : World) (hs : u.s.size ≤ maxLen) (ok : M1.okU u = true) (hk : u.k = 2) (tab : Tab w.heap.size w) :
    Calls Tryz.prog 27 #[.agg #[.int .i64 u.dr, .int .i64 u.dn, .int .i64 u.sw, .int .i64 u.sc, .int .i64 u.sr, .int .i64 2, .int .i64 u.tr, .int .i64 u.id, .int .i64 u.pa, .string u.s, .int .i64 u.st, .int .i64 u.en, .int .i64 u.lv]] w fun e w' => e = .returned (.string (M1.mkB (M1.txt u))) ∧ Below w.heap.size w w' := by
  obtain ⟨n5, n4, n1, _⟩ := okU_nine ok
  have N5 : Hid (∀ n ∈ M1.ns5 u, M1.nine n) := n5
  have HLT : Hid ((M1.txt u).length ≤ 200) := M1.txt_len ok
  have HOK : Hid (M1.updB u.dr u.dn u.sw u.sc u.sr 2 u.tr u.id u.pa u.s u.st u.en u.lv = true) := (by rw [← hk]; exact ok : _ = _)
  have HCH : Hid ((M1.zeroB u.id u.pa u.s u.st u.en && (u.lv == 0)) = true) := (by
    have h := (M1.okU_fields ok).2.2.2.2
    unfold M1.kindB at h
    rw [if_neg (by omega), if_pos hk] at h
    exact h : _ = _)
  have hA : Below w.heap.size w (w.alloc (.cells #[.int .i64 u.dr, .int .i64 u.dn, .int .i64 u.sw, .int .i64 u.sc, .int .i64 u.sr, .int .i64 2, .int .i64 u.tr, .int .i64 u.id, .int .i64 u.pa, .string u.s, .int .i64 u.st, .int .i64 u.en, .int .i64 u.lv] 47)) := (Below.refl _ _).alloc (Nat.le_refl _) _
  have row0 : RowAt (w.alloc (.cells #[.int .i64 u.dr, .int .i64 u.dn, .int .i64 u.sw, .int .i64 u.sc, .int .i64 u.sr, .int .i64 2, .int .i64 u.tr, .int .i64 u.id, .int .i64 u.pa, .string u.s, .int .i64 u.st, .int .i64 u.en, .int .i64 u.lv] 47)) w.heap.size 13 (fun o => (#[.int .i64 u.dr, .int .i64 u.dn, .int .i64 u.sw, .int .i64 u.sc, .int .i64 u.sr, .int .i64 2, .int .i64 u.tr, .int .i64 u.id, .int .i64 u.pa, .string u.s, .int .i64 u.st, .int .i64 u.en, .int .i64 u.lv] : Array Value).getD o undef) := RowAt.new w _ _
  have hm : ∀ w, (method 199 100 (.agg #[]) "loop.example/g00368/impl.word").run Tryz.prog w = .ok (172, (.agg #[])) w := fun _ => by kernel_rfl
  have HTX : Hid (M1.txt u = Lib.join (M1.wrd u) [32]) := (M1.join_wrd u).symm
  have HW : Hid (([(⟨#[107, 101, 101, 112]⟩ : ByteArray)] ++ dW (M1.ns5 u)).map (fun x : ByteArray => x.data.toList) = M1.wrd u) := (by unfold M1.wrd dW M1.ns5; simp [hk, M1.mkB, M1.wKeep] : _ = _)
  clear hk
  go_enter Tryz.func27, Tryz.ntmps27
  go_upto_region 1 with fail
  obtain ⟨W0, hW0⟩ : ∃ W, w.alloc (.cells #[.int .i64 u.dr, .int .i64 u.dn, .int .i64 u.sw, .int .i64 u.sc, .int .i64 u.sr, .int .i64 2, .int .i64 u.tr, .int .i64 u.id, .int .i64 u.pa, .string u.s, .int .i64 u.st, .int .i64 u.en, .int .i64 u.lv] 47) = W := ⟨_, rfl⟩
  rw [hW0] at hA row0 ⊢
  clear hW0
  have c0 := row0.cell (o := 0) (by omega)
  have c1 := row0.cell (o := 1) (by omega)
  have c2 := row0.cell (o := 2) (by omega)
  have c3 := row0.cell (o := 3) (by omega)
  have c4 := row0.cell (o := 4) (by omega)
  have c5 := row0.cell (o := 5) (by omega)
  have c6 := row0.cell (o := 6) (by omega)
  have c7 := row0.cell (o := 7) (by omega)
  have c8 := row0.cell (o := 8) (by omega)
  have c9 := row0.cell (o := 9) (by omega)
  have c10 := row0.cell (o := 10) (by omega)
  have c11 := row0.cell (o := 11) (by omega)
  have c12 := row0.cell (o := 12) (by omega)
  simp at c0 c1 c2 c3 c4 c5 c6 c7 c8 c9 c10 c11 c12
  have cl := row0.lt
  go_wp2_with fail
  refine (changeOf_2 u.dr u.dn u.sw u.sc u.sr u.tr u.id u.pa u.st u.en u.lv u.s _).mono ?_
  rw [HCH.out]
  rintro e w1 ⟨rfl, hb1⟩
  have row1 := row0.below hb1
  have hB1 := hA.trans (hb1.mono hA.size)
  clear c0 c1 c2 c3 c4 c5 c6 c7 c8 c9 c10 c11 c12 cl hb1 row0
  have c0 := row1.cell (o := 0) (by omega)
  have c1 := row1.cell (o := 1) (by omega)
  have c2 := row1.cell (o := 2) (by omega)
  have c3 := row1.cell (o := 3) (by omega)
  have c4 := row1.cell (o := 4) (by omega)
  have c5 := row1.cell (o := 5) (by omega)
  have c6 := row1.cell (o := 6) (by omega)
  have c7 := row1.cell (o := 7) (by omega)
  have c8 := row1.cell (o := 8) (by omega)
  have c9 := row1.cell (o := 9) (by omega)
  have c10 := row1.cell (o := 10) (by omega)
  have c11 := row1.cell (o := 11) (by omega)
  have c12 := row1.cell (o := 12) (by omega)
  simp at c0 c1 c2 c3 c4 c5 c6 c7 c8 c9 c10 c11 c12
  have cl := row1.lt
  go_wp2_with fail
  refine (updateOk_impl u.dr u.dn u.sw u.sc u.sr 2 u.tr u.id u.pa u.st u.en u.lv u.s _ hs).mono ?_
  rw [HOK.out]
  rintro e w2 ⟨rfl, hb2⟩
  have row2 := row1.below hb2
  have hB2 := hB1.trans (hb2.mono hB1.size)
  clear c0 c1 c2 c3 c4 c5 c6 c7 c8 c9 c10 c11 c12 cl hb2 row1 hB1
  go_wp2_with fail
  refine (word_keep  _).mono ?_
  rintro e w3 ⟨rfl, hb3⟩
  have row3 := row2.below hb3
  have hB3 := hB2.trans (hb3.mono hB2.size)
  clear hb3 row2 hB2
  have ow4 := ownsS_one w3 9 ⟨#[107, 101, 101, 112]⟩
  have hA4 : Below w3.heap.size w3 (w3.alloc (.cells #[.string ⟨#[107, 101, 101, 112]⟩] 9)) := (Below.refl _ _).alloc (Nat.le_refl _) _
  have row4 := row3.below hA4
  have hs3 := hB3.size
  have hb3l := row3.lt
  go_upto_region 5 with fail
  obtain ⟨w4, hw4⟩ : ∃ W, w3.alloc (.cells #[.string ⟨#[107, 101, 101, 112]⟩] 9) = W := ⟨_, rfl⟩
  rw [hw4] at ow4 hA4 row4 ⊢
  clear hw4 row3
  have hs4 := hA4.size
  have hB4 := hB3.trans (hA4.mono hs3)
  have c0 := row4.cell (o := 0) (by omega)
  have c1 := row4.cell (o := 1) (by omega)
  have c2 := row4.cell (o := 2) (by omega)
  have c3 := row4.cell (o := 3) (by omega)
  have c4 := row4.cell (o := 4) (by omega)
  have c5 := row4.cell (o := 5) (by omega)
  have c6 := row4.cell (o := 6) (by omega)
  have c7 := row4.cell (o := 7) (by omega)
  have c8 := row4.cell (o := 8) (by omega)
  have c9 := row4.cell (o := 9) (by omega)
  have c10 := row4.cell (o := 10) (by omega)
  have c11 := row4.cell (o := 11) (by omega)
  have c12 := row4.cell (o := 12) (by omega)
  simp at c0 c1 c2 c3 c4 c5 c6 c7 c8 c9 c10 c11 c12
  have cl := row4.lt
  have nb : NumB (w4.alloc (.cells #[.int .i64 u.dr, .int .i64 u.dn, .int .i64 u.sw, .int .i64 u.sc, .int .i64 u.tr] 2)) w4.heap.size (M1.ns5 u) := NumB.new w4 (M1.ns5 u)
  have hA5 : Below w4.heap.size w4 (w4.alloc (.cells #[.int .i64 u.dr, .int .i64 u.dn, .int .i64 u.sw, .int .i64 u.sc, .int .i64 u.tr] 2)) := (Below.refl _ _).alloc (Nat.le_refl _) _
  have ow5 := owns_below ow4 hA5
  have hs5 := hA5.size
  have hB5 := hB4.trans (hA5.mono (by omega))
  have tab5 := tab_more (B' := w3.heap.size) (tab.on hB5) (by omega)
  go_wp2_with fail
  refine (withDecimals_any w3.heap.size _ _ 1 [(⟨#[107, 101, 101, 112]⟩ : ByteArray)] w4.heap.size 5 (M1.ns5 u) _ ow5 nb rfl (by omega) (by omega) N5 (by omega) tab5).mono ?_
  rintro e w6 ⟨a6, k7, rfl, ow6, gv6⟩
  have hs6 := gv6.size
  have hB6 := hB5.trans ((gv6.to_below (B := w3.heap.size) (by omega) (owns_base ow5)).mono (by omega))
  have tab6 := tab_more (B' := w3.heap.size) (tab.on hB6) (by omega)
  clear c0 c1 c2 c3 c4 c5 c6 c7 c8 c9 c10 c11 c12 cl nb hA5 ow5 gv6 ow4 hA4 row4 tab5
  go_wp2_with fail
  refine (wcw_keep _ _ _ _).mono ?_
  rintro e w7 ⟨rfl, rfl⟩
  have ow7 := ow6
  have hB7 := hB6
  rcases ow7.2 with ⟨e0, h0⟩ | ⟨g7, cap7, cur7, e0, hg7, hh7, hn7, hm7, hz7, ht7⟩
  · omega
  injection e0 with e1 _ e3
  subst e1; subst e3
  have cj : Calls Tryz.prog 51 #[.slice (some ⟨g7, 0, none⟩) (6) k7, .string ⟨#[32]⟩] w7 fun e w' => e = .returned (.string (M1.mkB (M1.txt u))) ∧ Below w7.heap.size w7 w' := by
    have q := Any.strings_Join Tryz.layJoin laysExtra g7 0 k7 ([(⟨#[107, 101, 101, 112]⟩ : ByteArray)] ++ dW (M1.ns5 u)) ⟨#[32]⟩ w7 (join_cells ow7) (Array.getElem?_eq_some_iff.1 hh7).1 (by simp [dW, M1.ns5]) (by simpa [dW, M1.ns5] using hn7) (by rw [HW.out]; have h1 := HLT.out; rw [HTX.out] at h1; exact Nat.le_trans h1 (by omega))
    rw [HW.out] at q
    rw [HTX.out]
    exact q
  go_wp2_with fail
  refine cj.mono ?_
  clear cj
  rintro e w8 ⟨rfl, hb8⟩
  have hB8 := hB7.trans (hb8.mono hB7.size)
  go_wp2_with fail
  go_ret
  exact ⟨rfl, hB8⟩

set_option maxHeartbeats 8000000 in
set_option maxRecDepth 100000 in
theorem ut_life (u : M1.Upd) (w : World) (hs : u.s.size ≤ maxLen) (ok : M1.okU u = true) (hk : u.k = 3) (tab : Tab w.heap.size w) :
    Calls Tryz.prog 27 #[.agg #[.int .i64 u.dr, .int .i64 u.dn, .int .i64 u.sw, .int .i64 u.sc, .int .i64 u.sr, .int .i64 3, .int .i64 u.tr, .int .i64 u.id, .int .i64 u.pa, .string u.s, .int .i64 u.st, .int .i64 u.en, .int .i64 u.lv]] w fun e w' => e = .returned (.string (M1.mkB (M1.txt u))) ∧ Below w.heap.size w w' := by
  obtain ⟨n5, n4, n1, _⟩ := okU_nine ok
  have N5 : Hid (∀ n ∈ M1.ns5 u, M1.nine n) := n5
  have HLT : Hid ((M1.txt u).length ≤ 200) := M1.txt_len ok
  have HOK : Hid (M1.updB u.dr u.dn u.sw u.sc u.sr 3 u.tr u.id u.pa u.s u.st u.en u.lv = true) := (by rw [← hk]; exact ok : _ = _)
  have HCH : Hid (M1.zeroB u.id u.pa u.s u.st u.en = true) := (by
    have h := (M1.okU_fields ok).2.2.2.2
    unfold M1.kindB at h
    rw [if_neg (by omega), if_neg (by omega), if_pos hk] at h
    simp only [Bool.and_eq_true] at h
    exact h.1 : _ = _)
  have N1 : Hid (∀ n ∈ [u.lv], M1.nine n) := fun n hn => by
    have e : n = u.lv := by simpa using hn
    rw [e]; exact n1 hk
  have hA : Below w.heap.size w (w.alloc (.cells #[.int .i64 u.dr, .int .i64 u.dn, .int .i64 u.sw, .int .i64 u.sc, .int .i64 u.sr, .int .i64 3, .int .i64 u.tr, .int .i64 u.id, .int .i64 u.pa, .string u.s, .int .i64 u.st, .int .i64 u.en, .int .i64 u.lv] 47)) := (Below.refl _ _).alloc (Nat.le_refl _) _
  have row0 : RowAt (w.alloc (.cells #[.int .i64 u.dr, .int .i64 u.dn, .int .i64 u.sw, .int .i64 u.sc, .int .i64 u.sr, .int .i64 3, .int .i64 u.tr, .int .i64 u.id, .int .i64 u.pa, .string u.s, .int .i64 u.st, .int .i64 u.en, .int .i64 u.lv] 47)) w.heap.size 13 (fun o => (#[.int .i64 u.dr, .int .i64 u.dn, .int .i64 u.sw, .int .i64 u.sc, .int .i64 u.sr, .int .i64 3, .int .i64 u.tr, .int .i64 u.id, .int .i64 u.pa, .string u.s, .int .i64 u.st, .int .i64 u.en, .int .i64 u.lv] : Array Value).getD o undef) := RowAt.new w _ _
  have hm : ∀ w, (method 199 102 (.agg #[.int .i64 u.lv]) "loop.example/g00368/impl.word").run Tryz.prog w = .ok (174, (.agg #[.int .i64 u.lv])) w := fun _ => by kernel_rfl
  have HTX : Hid (M1.txt u = Lib.join (M1.wrd u) [32]) := (M1.join_wrd u).symm
  have HW : Hid (([(⟨#[108, 105, 102, 101]⟩ : ByteArray)] ++ dW (M1.ns5 u) ++ dW [u.lv]).map (fun x : ByteArray => x.data.toList) = M1.wrd u) := (by unfold M1.wrd dW M1.ns5; simp [hk, M1.mkB, M1.wLife] : _ = _)
  clear hk
  go_enter Tryz.func27, Tryz.ntmps27
  go_upto_region 1 with fail
  obtain ⟨W0, hW0⟩ : ∃ W, w.alloc (.cells #[.int .i64 u.dr, .int .i64 u.dn, .int .i64 u.sw, .int .i64 u.sc, .int .i64 u.sr, .int .i64 3, .int .i64 u.tr, .int .i64 u.id, .int .i64 u.pa, .string u.s, .int .i64 u.st, .int .i64 u.en, .int .i64 u.lv] 47) = W := ⟨_, rfl⟩
  rw [hW0] at hA row0 ⊢
  clear hW0
  have c0 := row0.cell (o := 0) (by omega)
  have c1 := row0.cell (o := 1) (by omega)
  have c2 := row0.cell (o := 2) (by omega)
  have c3 := row0.cell (o := 3) (by omega)
  have c4 := row0.cell (o := 4) (by omega)
  have c5 := row0.cell (o := 5) (by omega)
  have c6 := row0.cell (o := 6) (by omega)
  have c7 := row0.cell (o := 7) (by omega)
  have c8 := row0.cell (o := 8) (by omega)
  have c9 := row0.cell (o := 9) (by omega)
  have c10 := row0.cell (o := 10) (by omega)
  have c11 := row0.cell (o := 11) (by omega)
  have c12 := row0.cell (o := 12) (by omega)
  simp at c0 c1 c2 c3 c4 c5 c6 c7 c8 c9 c10 c11 c12
  have cl := row0.lt
  go_wp2_with fail
  refine (changeOf_3 u.dr u.dn u.sw u.sc u.sr u.tr u.id u.pa u.st u.en u.lv u.s _).mono ?_
  rw [HCH.out]
  rintro e w1 ⟨rfl, hb1⟩
  have row1 := row0.below hb1
  have hB1 := hA.trans (hb1.mono hA.size)
  clear c0 c1 c2 c3 c4 c5 c6 c7 c8 c9 c10 c11 c12 cl hb1 row0
  have c0 := row1.cell (o := 0) (by omega)
  have c1 := row1.cell (o := 1) (by omega)
  have c2 := row1.cell (o := 2) (by omega)
  have c3 := row1.cell (o := 3) (by omega)
  have c4 := row1.cell (o := 4) (by omega)
  have c5 := row1.cell (o := 5) (by omega)
  have c6 := row1.cell (o := 6) (by omega)
  have c7 := row1.cell (o := 7) (by omega)
  have c8 := row1.cell (o := 8) (by omega)
  have c9 := row1.cell (o := 9) (by omega)
  have c10 := row1.cell (o := 10) (by omega)
  have c11 := row1.cell (o := 11) (by omega)
  have c12 := row1.cell (o := 12) (by omega)
  simp at c0 c1 c2 c3 c4 c5 c6 c7 c8 c9 c10 c11 c12
  have cl := row1.lt
  go_wp2_with fail
  refine (updateOk_impl u.dr u.dn u.sw u.sc u.sr 3 u.tr u.id u.pa u.st u.en u.lv u.s _ hs).mono ?_
  rw [HOK.out]
  rintro e w2 ⟨rfl, hb2⟩
  have row2 := row1.below hb2
  have hB2 := hB1.trans (hb2.mono hB1.size)
  clear c0 c1 c2 c3 c4 c5 c6 c7 c8 c9 c10 c11 c12 cl hb2 row1 hB1
  go_wp2_with fail
  refine (word_life _ _).mono ?_
  rintro e w3 ⟨rfl, hb3⟩
  have row3 := row2.below hb3
  have hB3 := hB2.trans (hb3.mono hB2.size)
  clear hb3 row2 hB2
  have ow4 := ownsS_one w3 9 ⟨#[108, 105, 102, 101]⟩
  have hA4 : Below w3.heap.size w3 (w3.alloc (.cells #[.string ⟨#[108, 105, 102, 101]⟩] 9)) := (Below.refl _ _).alloc (Nat.le_refl _) _
  have row4 := row3.below hA4
  have hs3 := hB3.size
  have hb3l := row3.lt
  go_upto_region 5 with fail
  obtain ⟨w4, hw4⟩ : ∃ W, w3.alloc (.cells #[.string ⟨#[108, 105, 102, 101]⟩] 9) = W := ⟨_, rfl⟩
  rw [hw4] at ow4 hA4 row4 ⊢
  clear hw4 row3
  have hs4 := hA4.size
  have hB4 := hB3.trans (hA4.mono hs3)
  have c0 := row4.cell (o := 0) (by omega)
  have c1 := row4.cell (o := 1) (by omega)
  have c2 := row4.cell (o := 2) (by omega)
  have c3 := row4.cell (o := 3) (by omega)
  have c4 := row4.cell (o := 4) (by omega)
  have c5 := row4.cell (o := 5) (by omega)
  have c6 := row4.cell (o := 6) (by omega)
  have c7 := row4.cell (o := 7) (by omega)
  have c8 := row4.cell (o := 8) (by omega)
  have c9 := row4.cell (o := 9) (by omega)
  have c10 := row4.cell (o := 10) (by omega)
  have c11 := row4.cell (o := 11) (by omega)
  have c12 := row4.cell (o := 12) (by omega)
  simp at c0 c1 c2 c3 c4 c5 c6 c7 c8 c9 c10 c11 c12
  have cl := row4.lt
  have nb : NumB (w4.alloc (.cells #[.int .i64 u.dr, .int .i64 u.dn, .int .i64 u.sw, .int .i64 u.sc, .int .i64 u.tr] 2)) w4.heap.size (M1.ns5 u) := NumB.new w4 (M1.ns5 u)
  have hA5 : Below w4.heap.size w4 (w4.alloc (.cells #[.int .i64 u.dr, .int .i64 u.dn, .int .i64 u.sw, .int .i64 u.sc, .int .i64 u.tr] 2)) := (Below.refl _ _).alloc (Nat.le_refl _) _
  have ow5 := owns_below ow4 hA5
  have hs5 := hA5.size
  have hB5 := hB4.trans (hA5.mono (by omega))
  have tab5 := tab_more (B' := w3.heap.size) (tab.on hB5) (by omega)
  go_wp2_with fail
  refine (withDecimals_any w3.heap.size _ _ 1 [(⟨#[108, 105, 102, 101]⟩ : ByteArray)] w4.heap.size 5 (M1.ns5 u) _ ow5 nb rfl (by omega) (by omega) N5 (by omega) tab5).mono ?_
  rintro e w6 ⟨a6, k6, rfl, ow6, gv6⟩
  have hs6 := gv6.size
  have hB6 := hB5.trans ((gv6.to_below (B := w3.heap.size) (by omega) (owns_base ow5)).mono (by omega))
  have tab6 := tab_more (B' := w3.heap.size) (tab.on hB6) (by omega)
  clear c0 c1 c2 c3 c4 c5 c6 c7 c8 c9 c10 c11 c12 cl nb hA5 ow5 gv6 ow4 hA4 row4 tab5
  go_wp2_with fail
  refine (wcw_life w3.heap.size _ _ 6 _ u.lv _ ow6 (by omega) N1 (by omega) tab6).mono ?_
  rintro e w7 ⟨a7, k7, rfl, ow7, gv7⟩
  have hB7 := hB6.trans ((gv7.to_below (B := w3.heap.size) (by omega) (owns_base ow6)).mono (by omega))
  rcases ow7.2 with ⟨e0, h0⟩ | ⟨g7, cap7, cur7, e0, hg7, hh7, hn7, hm7, hz7, ht7⟩
  · omega
  injection e0 with e1 _ e3
  subst e1; subst e3
  have cj : Calls Tryz.prog 51 #[.slice (some ⟨g7, 0, none⟩) (6 + 1) k7, .string ⟨#[32]⟩] w7 fun e w' => e = .returned (.string (M1.mkB (M1.txt u))) ∧ Below w7.heap.size w7 w' := by
    have q := Any.strings_Join Tryz.layJoin laysExtra g7 0 k7 ([(⟨#[108, 105, 102, 101]⟩ : ByteArray)] ++ dW (M1.ns5 u) ++ dW [u.lv]) ⟨#[32]⟩ w7 (join_cells ow7) (Array.getElem?_eq_some_iff.1 hh7).1 (by simp [dW, M1.ns5]) (by simpa [dW, M1.ns5] using hn7) (by rw [HW.out]; have h1 := HLT.out; rw [HTX.out] at h1; exact Nat.le_trans h1 (by omega))
    rw [HW.out] at q
    rw [HTX.out]
    exact q
  go_wp2_with fail
  refine cj.mono ?_
  clear cj
  rintro e w8 ⟨rfl, hb8⟩
  have hB8 := hB7.trans (hb8.mono hB7.size)
  go_wp2_with fail
  go_ret
  exact ⟨rfl, hB8⟩

set_option maxHeartbeats 4000000 in
set_option maxRecDepth 100000 in
theorem ut_no1 (u : M1.Upd) (w : World) (hs : u.s.size ≤ maxLen) (ok : M1.okU u = false) (hk : u.k = 1) :
    Calls Tryz.prog 27 #[.agg #[.int .i64 u.dr, .int .i64 u.dn, .int .i64 u.sw, .int .i64 u.sc, .int .i64 u.sr, .int .i64 1, .int .i64 u.tr, .int .i64 u.id, .int .i64 u.pa, .string u.s, .int .i64 u.st, .int .i64 u.en, .int .i64 u.lv]] w fun e w' => e = .returned (.string ByteArray.empty) ∧ Below w.heap.size w w' := by
  have HOK : Hid (M1.updB u.dr u.dn u.sw u.sc u.sr 1 u.tr u.id u.pa u.s u.st u.en u.lv = false) := (by rw [← hk]; exact ok : _ = _)
  obtain ⟨b, HCH⟩ : ∃ b, Hid ((u.lv == 0) = b) := ⟨_, rfl⟩
  have hA : Below w.heap.size w (w.alloc (.cells #[.int .i64 u.dr, .int .i64 u.dn, .int .i64 u.sw, .int .i64 u.sc, .int .i64 u.sr, .int .i64 1, .int .i64 u.tr, .int .i64 u.id, .int .i64 u.pa, .string u.s, .int .i64 u.st, .int .i64 u.en, .int .i64 u.lv] 47)) := (Below.refl _ _).alloc (Nat.le_refl _) _
  have row0 : RowAt (w.alloc (.cells #[.int .i64 u.dr, .int .i64 u.dn, .int .i64 u.sw, .int .i64 u.sc, .int .i64 u.sr, .int .i64 1, .int .i64 u.tr, .int .i64 u.id, .int .i64 u.pa, .string u.s, .int .i64 u.st, .int .i64 u.en, .int .i64 u.lv] 47)) w.heap.size 13 (fun o => (#[.int .i64 u.dr, .int .i64 u.dn, .int .i64 u.sw, .int .i64 u.sc, .int .i64 u.sr, .int .i64 1, .int .i64 u.tr, .int .i64 u.id, .int .i64 u.pa, .string u.s, .int .i64 u.st, .int .i64 u.en, .int .i64 u.lv] : Array Value).getD o undef) := RowAt.new w _ _
  clear hk
  go_enter Tryz.func27, Tryz.ntmps27
  go_upto_region 1 with fail
  obtain ⟨W0, hW0⟩ : ∃ W, w.alloc (.cells #[.int .i64 u.dr, .int .i64 u.dn, .int .i64 u.sw, .int .i64 u.sc, .int .i64 u.sr, .int .i64 1, .int .i64 u.tr, .int .i64 u.id, .int .i64 u.pa, .string u.s, .int .i64 u.st, .int .i64 u.en, .int .i64 u.lv] 47) = W := ⟨_, rfl⟩
  rw [hW0] at hA row0 ⊢
  clear hW0
  have c0 := row0.cell (o := 0) (by omega)
  have c1 := row0.cell (o := 1) (by omega)
  have c2 := row0.cell (o := 2) (by omega)
  have c3 := row0.cell (o := 3) (by omega)
  have c4 := row0.cell (o := 4) (by omega)
  have c5 := row0.cell (o := 5) (by omega)
  have c6 := row0.cell (o := 6) (by omega)
  have c7 := row0.cell (o := 7) (by omega)
  have c8 := row0.cell (o := 8) (by omega)
  have c9 := row0.cell (o := 9) (by omega)
  have c10 := row0.cell (o := 10) (by omega)
  have c11 := row0.cell (o := 11) (by omega)
  have c12 := row0.cell (o := 12) (by omega)
  simp at c0 c1 c2 c3 c4 c5 c6 c7 c8 c9 c10 c11 c12
  have cl := row0.lt
  go_wp2_with fail
  refine (changeOf_1 u.dr u.dn u.sw u.sc u.sr u.tr u.id u.pa u.st u.en u.lv u.s _).mono ?_
  rw [HCH.out]
  rintro e w1 ⟨rfl, hb1⟩
  have row1 := row0.below hb1
  have hB1 := hA.trans (hb1.mono hA.size)
  clear c0 c1 c2 c3 c4 c5 c6 c7 c8 c9 c10 c11 c12 cl hb1 row0
  cases b with
  | false =>
    go_wp2_with fail
    go_ret
    exact ⟨rfl, hB1⟩
  | true =>
    have c0 := row1.cell (o := 0) (by omega)
    have c1 := row1.cell (o := 1) (by omega)
    have c2 := row1.cell (o := 2) (by omega)
    have c3 := row1.cell (o := 3) (by omega)
    have c4 := row1.cell (o := 4) (by omega)
    have c5 := row1.cell (o := 5) (by omega)
    have c6 := row1.cell (o := 6) (by omega)
    have c7 := row1.cell (o := 7) (by omega)
    have c8 := row1.cell (o := 8) (by omega)
    have c9 := row1.cell (o := 9) (by omega)
    have c10 := row1.cell (o := 10) (by omega)
    have c11 := row1.cell (o := 11) (by omega)
    have c12 := row1.cell (o := 12) (by omega)
    simp at c0 c1 c2 c3 c4 c5 c6 c7 c8 c9 c10 c11 c12
    have cl := row1.lt
    go_wp2_with fail
    refine (updateOk_impl u.dr u.dn u.sw u.sc u.sr 1 u.tr u.id u.pa u.st u.en u.lv u.s _ hs).mono ?_
    rw [HOK.out]
    rintro e w2 ⟨rfl, hb2⟩
    have hB2 := hB1.trans (hb2.mono hB1.size)
    go_wp2_with fail
    go_ret
    exact ⟨rfl, hB2⟩

set_option maxHeartbeats 4000000 in
set_option maxRecDepth 100000 in
theorem ut_no2 (u : M1.Upd) (w : World) (hs : u.s.size ≤ maxLen) (ok : M1.okU u = false) (hk : u.k = 2) :
    Calls Tryz.prog 27 #[.agg #[.int .i64 u.dr, .int .i64 u.dn, .int .i64 u.sw, .int .i64 u.sc, .int .i64 u.sr, .int .i64 2, .int .i64 u.tr, .int .i64 u.id, .int .i64 u.pa, .string u.s, .int .i64 u.st, .int .i64 u.en, .int .i64 u.lv]] w fun e w' => e = .returned (.string ByteArray.empty) ∧ Below w.heap.size w w' := by
  have HOK : Hid (M1.updB u.dr u.dn u.sw u.sc u.sr 2 u.tr u.id u.pa u.s u.st u.en u.lv = false) := (by rw [← hk]; exact ok : _ = _)
  obtain ⟨b, HCH⟩ : ∃ b, Hid ((M1.zeroB u.id u.pa u.s u.st u.en && (u.lv == 0)) = b) := ⟨_, rfl⟩
  have hA : Below w.heap.size w (w.alloc (.cells #[.int .i64 u.dr, .int .i64 u.dn, .int .i64 u.sw, .int .i64 u.sc, .int .i64 u.sr, .int .i64 2, .int .i64 u.tr, .int .i64 u.id, .int .i64 u.pa, .string u.s, .int .i64 u.st, .int .i64 u.en, .int .i64 u.lv] 47)) := (Below.refl _ _).alloc (Nat.le_refl _) _
  have row0 : RowAt (w.alloc (.cells #[.int .i64 u.dr, .int .i64 u.dn, .int .i64 u.sw, .int .i64 u.sc, .int .i64 u.sr, .int .i64 2, .int .i64 u.tr, .int .i64 u.id, .int .i64 u.pa, .string u.s, .int .i64 u.st, .int .i64 u.en, .int .i64 u.lv] 47)) w.heap.size 13 (fun o => (#[.int .i64 u.dr, .int .i64 u.dn, .int .i64 u.sw, .int .i64 u.sc, .int .i64 u.sr, .int .i64 2, .int .i64 u.tr, .int .i64 u.id, .int .i64 u.pa, .string u.s, .int .i64 u.st, .int .i64 u.en, .int .i64 u.lv] : Array Value).getD o undef) := RowAt.new w _ _
  clear hk
  go_enter Tryz.func27, Tryz.ntmps27
  go_upto_region 1 with fail
  obtain ⟨W0, hW0⟩ : ∃ W, w.alloc (.cells #[.int .i64 u.dr, .int .i64 u.dn, .int .i64 u.sw, .int .i64 u.sc, .int .i64 u.sr, .int .i64 2, .int .i64 u.tr, .int .i64 u.id, .int .i64 u.pa, .string u.s, .int .i64 u.st, .int .i64 u.en, .int .i64 u.lv] 47) = W := ⟨_, rfl⟩
  rw [hW0] at hA row0 ⊢
  clear hW0
  have c0 := row0.cell (o := 0) (by omega)
  have c1 := row0.cell (o := 1) (by omega)
  have c2 := row0.cell (o := 2) (by omega)
  have c3 := row0.cell (o := 3) (by omega)
  have c4 := row0.cell (o := 4) (by omega)
  have c5 := row0.cell (o := 5) (by omega)
  have c6 := row0.cell (o := 6) (by omega)
  have c7 := row0.cell (o := 7) (by omega)
  have c8 := row0.cell (o := 8) (by omega)
  have c9 := row0.cell (o := 9) (by omega)
  have c10 := row0.cell (o := 10) (by omega)
  have c11 := row0.cell (o := 11) (by omega)
  have c12 := row0.cell (o := 12) (by omega)
  simp at c0 c1 c2 c3 c4 c5 c6 c7 c8 c9 c10 c11 c12
  have cl := row0.lt
  go_wp2_with fail
  refine (changeOf_2 u.dr u.dn u.sw u.sc u.sr u.tr u.id u.pa u.st u.en u.lv u.s _).mono ?_
  rw [HCH.out]
  rintro e w1 ⟨rfl, hb1⟩
  have row1 := row0.below hb1
  have hB1 := hA.trans (hb1.mono hA.size)
  clear c0 c1 c2 c3 c4 c5 c6 c7 c8 c9 c10 c11 c12 cl hb1 row0
  cases b with
  | false =>
    go_wp2_with fail
    go_ret
    exact ⟨rfl, hB1⟩
  | true =>
    have c0 := row1.cell (o := 0) (by omega)
    have c1 := row1.cell (o := 1) (by omega)
    have c2 := row1.cell (o := 2) (by omega)
    have c3 := row1.cell (o := 3) (by omega)
    have c4 := row1.cell (o := 4) (by omega)
    have c5 := row1.cell (o := 5) (by omega)
    have c6 := row1.cell (o := 6) (by omega)
    have c7 := row1.cell (o := 7) (by omega)
    have c8 := row1.cell (o := 8) (by omega)
    have c9 := row1.cell (o := 9) (by omega)
    have c10 := row1.cell (o := 10) (by omega)
    have c11 := row1.cell (o := 11) (by omega)
    have c12 := row1.cell (o := 12) (by omega)
    simp at c0 c1 c2 c3 c4 c5 c6 c7 c8 c9 c10 c11 c12
    have cl := row1.lt
    go_wp2_with fail
    refine (updateOk_impl u.dr u.dn u.sw u.sc u.sr 2 u.tr u.id u.pa u.st u.en u.lv u.s _ hs).mono ?_
    rw [HOK.out]
    rintro e w2 ⟨rfl, hb2⟩
    have hB2 := hB1.trans (hb2.mono hB1.size)
    go_wp2_with fail
    go_ret
    exact ⟨rfl, hB2⟩

set_option maxHeartbeats 4000000 in
set_option maxRecDepth 100000 in
theorem ut_no3 (u : M1.Upd) (w : World) (hs : u.s.size ≤ maxLen) (ok : M1.okU u = false) (hk : u.k = 3) :
    Calls Tryz.prog 27 #[.agg #[.int .i64 u.dr, .int .i64 u.dn, .int .i64 u.sw, .int .i64 u.sc, .int .i64 u.sr, .int .i64 3, .int .i64 u.tr, .int .i64 u.id, .int .i64 u.pa, .string u.s, .int .i64 u.st, .int .i64 u.en, .int .i64 u.lv]] w fun e w' => e = .returned (.string ByteArray.empty) ∧ Below w.heap.size w w' := by
  have HOK : Hid (M1.updB u.dr u.dn u.sw u.sc u.sr 3 u.tr u.id u.pa u.s u.st u.en u.lv = false) := (by rw [← hk]; exact ok : _ = _)
  obtain ⟨b, HCH⟩ : ∃ b, Hid (M1.zeroB u.id u.pa u.s u.st u.en = b) := ⟨_, rfl⟩
  have hA : Below w.heap.size w (w.alloc (.cells #[.int .i64 u.dr, .int .i64 u.dn, .int .i64 u.sw, .int .i64 u.sc, .int .i64 u.sr, .int .i64 3, .int .i64 u.tr, .int .i64 u.id, .int .i64 u.pa, .string u.s, .int .i64 u.st, .int .i64 u.en, .int .i64 u.lv] 47)) := (Below.refl _ _).alloc (Nat.le_refl _) _
  have row0 : RowAt (w.alloc (.cells #[.int .i64 u.dr, .int .i64 u.dn, .int .i64 u.sw, .int .i64 u.sc, .int .i64 u.sr, .int .i64 3, .int .i64 u.tr, .int .i64 u.id, .int .i64 u.pa, .string u.s, .int .i64 u.st, .int .i64 u.en, .int .i64 u.lv] 47)) w.heap.size 13 (fun o => (#[.int .i64 u.dr, .int .i64 u.dn, .int .i64 u.sw, .int .i64 u.sc, .int .i64 u.sr, .int .i64 3, .int .i64 u.tr, .int .i64 u.id, .int .i64 u.pa, .string u.s, .int .i64 u.st, .int .i64 u.en, .int .i64 u.lv] : Array Value).getD o undef) := RowAt.new w _ _
  clear hk
  go_enter Tryz.func27, Tryz.ntmps27
  go_upto_region 1 with fail
  obtain ⟨W0, hW0⟩ : ∃ W, w.alloc (.cells #[.int .i64 u.dr, .int .i64 u.dn, .int .i64 u.sw, .int .i64 u.sc, .int .i64 u.sr, .int .i64 3, .int .i64 u.tr, .int .i64 u.id, .int .i64 u.pa, .string u.s, .int .i64 u.st, .int .i64 u.en, .int .i64 u.lv] 47) = W := ⟨_, rfl⟩
  rw [hW0] at hA row0 ⊢
  clear hW0
  have c0 := row0.cell (o := 0) (by omega)
  have c1 := row0.cell (o := 1) (by omega)
  have c2 := row0.cell (o := 2) (by omega)
  have c3 := row0.cell (o := 3) (by omega)
  have c4 := row0.cell (o := 4) (by omega)
  have c5 := row0.cell (o := 5) (by omega)
  have c6 := row0.cell (o := 6) (by omega)
  have c7 := row0.cell (o := 7) (by omega)
  have c8 := row0.cell (o := 8) (by omega)
  have c9 := row0.cell (o := 9) (by omega)
  have c10 := row0.cell (o := 10) (by omega)
  have c11 := row0.cell (o := 11) (by omega)
  have c12 := row0.cell (o := 12) (by omega)
  simp at c0 c1 c2 c3 c4 c5 c6 c7 c8 c9 c10 c11 c12
  have cl := row0.lt
  go_wp2_with fail
  refine (changeOf_3 u.dr u.dn u.sw u.sc u.sr u.tr u.id u.pa u.st u.en u.lv u.s _).mono ?_
  rw [HCH.out]
  rintro e w1 ⟨rfl, hb1⟩
  have row1 := row0.below hb1
  have hB1 := hA.trans (hb1.mono hA.size)
  clear c0 c1 c2 c3 c4 c5 c6 c7 c8 c9 c10 c11 c12 cl hb1 row0
  cases b with
  | false =>
    go_wp2_with fail
    go_ret
    exact ⟨rfl, hB1⟩
  | true =>
    have c0 := row1.cell (o := 0) (by omega)
    have c1 := row1.cell (o := 1) (by omega)
    have c2 := row1.cell (o := 2) (by omega)
    have c3 := row1.cell (o := 3) (by omega)
    have c4 := row1.cell (o := 4) (by omega)
    have c5 := row1.cell (o := 5) (by omega)
    have c6 := row1.cell (o := 6) (by omega)
    have c7 := row1.cell (o := 7) (by omega)
    have c8 := row1.cell (o := 8) (by omega)
    have c9 := row1.cell (o := 9) (by omega)
    have c10 := row1.cell (o := 10) (by omega)
    have c11 := row1.cell (o := 11) (by omega)
    have c12 := row1.cell (o := 12) (by omega)
    simp at c0 c1 c2 c3 c4 c5 c6 c7 c8 c9 c10 c11 c12
    have cl := row1.lt
    go_wp2_with fail
    refine (updateOk_impl u.dr u.dn u.sw u.sc u.sr 3 u.tr u.id u.pa u.st u.en u.lv u.s _ hs).mono ?_
    rw [HOK.out]
    rintro e w2 ⟨rfl, hb2⟩
    have hB2 := hB1.trans (hb2.mono hB1.size)
    go_wp2_with fail
    go_ret
    exact ⟨rfl, hB2⟩

set_option maxHeartbeats 4000000 in
set_option maxRecDepth 100000 in
theorem ut_no0 (u : M1.Upd) (w : World) (h1 : ¬ u.k = 1) (h2 : ¬ u.k = 2) (h3 : ¬ u.k = 3) :
    Calls Tryz.prog 27 #[.agg #[.int .i64 u.dr, .int .i64 u.dn, .int .i64 u.sw, .int .i64 u.sc, .int .i64 u.sr, .int .i64 u.k, .int .i64 u.tr, .int .i64 u.id, .int .i64 u.pa, .string u.s, .int .i64 u.st, .int .i64 u.en, .int .i64 u.lv]] w fun e w' => e = .returned (.string ByteArray.empty) ∧ Below w.heap.size w w' := by
  have hA : Below w.heap.size w (w.alloc (.cells #[.int .i64 u.dr, .int .i64 u.dn, .int .i64 u.sw, .int .i64 u.sc, .int .i64 u.sr, .int .i64 u.k, .int .i64 u.tr, .int .i64 u.id, .int .i64 u.pa, .string u.s, .int .i64 u.st, .int .i64 u.en, .int .i64 u.lv] 47)) := (Below.refl _ _).alloc (Nat.le_refl _) _
  have row0 : RowAt (w.alloc (.cells #[.int .i64 u.dr, .int .i64 u.dn, .int .i64 u.sw, .int .i64 u.sc, .int .i64 u.sr, .int .i64 u.k, .int .i64 u.tr, .int .i64 u.id, .int .i64 u.pa, .string u.s, .int .i64 u.st, .int .i64 u.en, .int .i64 u.lv] 47)) w.heap.size 13 (fun o => (#[.int .i64 u.dr, .int .i64 u.dn, .int .i64 u.sw, .int .i64 u.sc, .int .i64 u.sr, .int .i64 u.k, .int .i64 u.tr, .int .i64 u.id, .int .i64 u.pa, .string u.s, .int .i64 u.st, .int .i64 u.en, .int .i64 u.lv] : Array Value).getD o undef) := RowAt.new w _ _
  go_enter Tryz.func27, Tryz.ntmps27
  go_upto_region 1 with fail
  obtain ⟨W0, hW0⟩ : ∃ W, w.alloc (.cells #[.int .i64 u.dr, .int .i64 u.dn, .int .i64 u.sw, .int .i64 u.sc, .int .i64 u.sr, .int .i64 u.k, .int .i64 u.tr, .int .i64 u.id, .int .i64 u.pa, .string u.s, .int .i64 u.st, .int .i64 u.en, .int .i64 u.lv] 47) = W := ⟨_, rfl⟩
  rw [hW0] at hA row0 ⊢
  clear hW0
  have c0 := row0.cell (o := 0) (by omega)
  have c1 := row0.cell (o := 1) (by omega)
  have c2 := row0.cell (o := 2) (by omega)
  have c3 := row0.cell (o := 3) (by omega)
  have c4 := row0.cell (o := 4) (by omega)
  have c5 := row0.cell (o := 5) (by omega)
  have c6 := row0.cell (o := 6) (by omega)
  have c7 := row0.cell (o := 7) (by omega)
  have c8 := row0.cell (o := 8) (by omega)
  have c9 := row0.cell (o := 9) (by omega)
  have c10 := row0.cell (o := 10) (by omega)
  have c11 := row0.cell (o := 11) (by omega)
  have c12 := row0.cell (o := 12) (by omega)
  simp at c0 c1 c2 c3 c4 c5 c6 c7 c8 c9 c10 c11 c12
  have cl := row0.lt
  go_wp2_with fail
  refine (changeOf_0 u.dr u.dn u.sw u.sc u.sr u.k u.tr u.id u.pa u.st u.en u.lv u.s _ (by simp [h1]) (by simp [h2]) (by simp [h3])).mono ?_
  rintro e w1 ⟨rfl, hb1⟩
  have hB1 := hA.trans (hb1.mono hA.size)
  go_wp2_with fail
  go_ret
  exact ⟨rfl, hB1⟩

theorem updateText_impl (u : M1.Upd) (w : World) (hs : u.s.size ≤ maxLen) (tab : Tab w.heap.size w) :
    Calls Tryz.prog 27 #[.agg #[.int .i64 u.dr, .int .i64 u.dn, .int .i64 u.sw, .int .i64 u.sc, .int .i64 u.sr, .int .i64 u.k, .int .i64 u.tr, .int .i64 u.id, .int .i64 u.pa, .string u.s, .int .i64 u.st, .int .i64 u.en, .int .i64 u.lv]] w fun e w' => e = .returned (.string (M1.utx u)) ∧ Below w.heap.size w w' := by
  cases ok : M1.okU u with
  | true =>
    have e : M1.utx u = M1.mkB (M1.txt u) := by unfold M1.utx; rw [ok]; rfl
    rw [e]
    rcases (okU_nine ok).2.2.2 with hk | hk | hk
    · have := ut_span u w hs ok hk tab
      rw [← hk] at this; exact this
    · have := ut_keep u w hs ok hk tab
      rw [← hk] at this; exact this
    · have := ut_life u w hs ok hk tab
      rw [← hk] at this; exact this
  | false =>
    have e : M1.utx u = ByteArray.empty := by unfold M1.utx; rw [ok]; rfl
    rw [e]
    by_cases h1 : u.k = 1
    · have := ut_no1 u w hs ok h1
      rw [← h1] at this; exact this
    by_cases h2 : u.k = 2
    · have := ut_no2 u w hs ok h2
      rw [← h2] at this; exact this
    by_cases h3 : u.k = 3
    · have := ut_no3 u w hs ok h3
      rw [← h3] at this; exact this
    exact ut_no0 u w h1 h2 h3
end Go.Proofs.YtbhidjagmonnaaaGreatDoor
