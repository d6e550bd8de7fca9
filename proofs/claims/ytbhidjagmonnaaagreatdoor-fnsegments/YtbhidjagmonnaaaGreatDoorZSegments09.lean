/-
  Texts of one proof, joined: Tx1.
-/
import Derived.Test.YtbhidjagmonnaaaGreatDoorZSegments06
import Derived.Test.YtbhidjagmonnaaaGreatDoorZSegments01
import Derived.Test.YtbhidjagmonnaaaGreatDoorZSegments08
import Derived.Test.YtbhidjagmonnaaaGreatDoorZSegments00
import Derived.BigQuiet
namespace M1
theorem by1_mk (n : Nat) : by1 n = mkB [UInt8.ofNat n] := rfl
theorem blank_mk : (⟨#[32]⟩ : ByteArray) = mkB [32] := rfl
theorem row_nine {ns : List Int} (h : ∀ n ∈ ns, nine n) (k : Nat) : (rowL (ns.take k)).length ≤ 20 * ns.length := by
  have h1 := rowL_len (ns := ns.take k) fun n hn => h n (List.mem_of_mem_take hn)
  have h2 : (ns.take k).length ≤ ns.length := by rw [List.length_take]; omega
  omega
theorem row_step {ns : List Int} {k : Nat} (h : k < ns.length) : rowL (ns.take (k + 1)) = rowL (ns.take k) ++ 32 :: dcm (ns.getD k 0) := by
  rw [List.take_succ_eq_append_getElem h, rowL_snoc]
  simp [List.getD, h]
end M1
namespace Go.Proofs.YtbhidjagmonnaaaGreatDoor
open Go.ChangeShapes Go.WideShapes Go.ChangeAt Go.RowKit
set_option linter.unusedSimpArgs false
set_option linter.unusedVariables false

/-- The cells of a row of numbers. -/
def ic (zs : List Int) (o : Nat) : Value := .int .i64 (zs.getD o 0)

set_option maxHeartbeats 2000000 in
theorem l1Dec_any (k : Nat) (hk : k ≤ 9223372036854775807) (w : World) :
    Calls Tryz.prog 79 #[.int .i64 (k : Int)] w fun e w' => e = .returned (.string (M1.mkB (M1.dcm (k : Int)))) ∧ Below w.heap.size w w' := by
  have k1 := conv_one
  have z1 := M1.by1_size
  go_enter Tryz.func79, Tryz.ntmps79
  go_wp2_with fail
  go_loopw [0, 3] (fun nv sv wr => ∃ (j : Nat) (l : List UInt8), j ≤ k ∧ nv = .int .i64 j ∧ sv = .string (M1.mkB l) ∧ l.length ≤ 19 ∧ Hid (Lib.decDigits j ++ l = Lib.decDigits k) ∧ Below w.heap.size w wr) (fun nv _ _ => (intOf nv).toNat)
  case atStart => exact ⟨k, [], Nat.le_refl _, rfl, rfl, by simp, (by rw [List.append_nil] : _ = _), Below.refl _ _⟩
  case round =>
    obtain ⟨j, l, hj, rfl, rfl, hl, hd, hB⟩ := hrel
    have hs := hB.size
    have hz := M1.mkB_size l
    by_cases c : 10 ≤ j
    · have HN : Hid (Lib.decDigits (j / 10) ++ (UInt8.ofNat (48 + j % 10) :: l) = Lib.decDigits k) := (by rw [← hd.out, M1.dec_big (k := j) (by omega), List.append_assoc]; rfl : _ = _)
      have hl2 : (UInt8.ofNat (48 + j % 10) :: l).length ≤ 19 := by
        have h1 := congrArg List.length HN.out
        rw [List.length_append] at h1
        have h2 := (M1.dec_all (j / 10)).2.2.1
        have h3 := M1.dec_len k 18 (by omega)
        omega
      go_wp2
      exact ⟨⟨j / 10, UInt8.ofNat (48 + j % 10) :: l, by omega, by go_num, by rw [M1.by1_mk, M1.mkB_app]; rfl, hl2, HN, hB.alloc hs _⟩, by simp [intOf]; omega⟩
    · have HN : Hid (UInt8.ofNat (48 + j) :: l = Lib.decDigits k) := (by rw [← hd.out, M1.dec_small (by omega)]; rfl : _ = _)
      go_wp2
      go_ret
      refine ⟨?_, hB.alloc hs _⟩
      show Ending.returned (.string (M1.by1 (48 + j) ++ M1.mkB l)) = _
      rw [M1.by1_mk, M1.mkB_app, M1.dcm_nat, ← HN.out]
      rfl

set_option maxHeartbeats 2000000 in
theorem l2Row_any (a : List UInt8) (g m c : Nat) (ns : List Int) (w : World) (hl : Hid (ns.length = m)) (hr : RowAt w g m (ic ns)) (hm : m ≤ 100) (hc : m ≤ c) (hc2 : c ≤ maxLen) (ha : a.length ≤ 1000) (hn : Hid (∀ n ∈ ns, M1.nine n)) :
    Calls Tryz.prog 57 #[.string (M1.mkB a), .slice (some ⟨g, 0, none⟩) m c] w fun e w' => e = .returned (.string (M1.mkB (a ++ M1.rowL ns))) ∧ Below w.heap.size w w' := by
  unfold maxLen at hc2
  go_enter Tryz.func57, Tryz.ntmps57
  go_wp2_with fail
  go_loopw [0, 5] (fun sv iv wr => ∃ k : Nat, k ≤ m ∧ iv = .int .i64 k ∧ sv = .string (M1.mkB (a ++ M1.rowL (ns.take k))) ∧ Below w.heap.size w wr) (fun _ iv _ => m - (intOf iv).toNat)
  case atStart => exact ⟨0, Nat.zero_le _, rfl, by simp [M1.rowL_nil], Below.refl _ _⟩
  case round =>
    obtain ⟨k, hk, rfl, rfl, hB⟩ := hrel
    have hs := hB.size
    by_cases hlt : k < m
    · have r1 := hr.below hB
      have hgl := r1.lt
      have k0 : (0 : Int) ≤ (k : Int) := by omega
      have k1 : (k : Int) < (m : Int) := by omega
      have d0 := r1.cell (o := k) hlt
      unfold ic at d0
      have hkl : k < ns.length := by rw [hl.out]; exact hlt
      have hnn : M1.nine (ns.getD k 0) := hn.out _ (by rw [show ns.getD k 0 = ns[k] by simp [List.getD, hkl]]; exact List.getElem_mem hkl)
      have HS : Hid (M1.rowL (ns.take (k + 1)) = M1.rowL (ns.take k) ++ 32 :: M1.dcm (ns.getD k 0)) := M1.row_step hkl
      have hlr := M1.row_nine hn.out k
      rw [hl.out] at hlr
      obtain ⟨n, hne⟩ : ∃ n : Nat, Hid (ns.getD k 0 = (n : Int)) := ⟨(ns.getD k 0).toNat, (by have := hnn.1; omega : _ = _)⟩
      rw [hne.out] at d0 HS hnn
      have hn2 : n ≤ 9223372036854775807 := by have := hnn.2; omega
      have hld := M1.dcm_len hnn.1 hnn.2
      obtain ⟨t, ht⟩ : ∃ t, Hid (a ++ M1.rowL (ns.take k) = t) := ⟨_, rfl⟩
      have htl : t.length ≤ 3000 := by rw [← ht.out, List.length_append]; omega
      have HT : Hid (a ++ M1.rowL (ns.take (k + 1)) = t ++ 32 :: M1.dcm (n : Int)) := (by rw [HS.out, ← ht.out]; simp : _ = _)
      rw [ht.out]
      have hz1 := M1.mkB_size t
      have hz3 : (M1.mkB (t ++ [32])).size = t.length + 1 := by rw [M1.mkB_size]; simp
      have hz2 := M1.mkB_size (M1.dcm (n : Int))
      have hap : M1.mkB t ++ (⟨#[32]⟩ : ByteArray) = M1.mkB (t ++ [32]) := M1.mkB_app t [32]
      have hb1 : (⟨#[32]⟩ : ByteArray).size = 1 := rfl
      clear hnn hkl
      go_wp2_with fail
      refine (l1Dec_any n hn2 _).mono ?_
      rintro e w2 ⟨rfl, hb2⟩
      have hB2 := hB.trans (hb2.mono hB.size)
      have hap2 : M1.mkB (t ++ [32]) ++ M1.mkB (M1.dcm (n : Int)) = M1.mkB (t ++ 32 :: M1.dcm (n : Int)) := by rw [M1.mkB_app]; simp
      go_wp2_with fail
      exact ⟨⟨k + 1, by omega, by go_num, by rw [HT.out], hB2⟩, by simp [intOf]; omega⟩
    · have hkm : k = m := by omega
      have HT : Hid (ns.take k = ns) := (by rw [hkm, ← hl.out]; exact List.take_length : _ = _)
      go_wp2_with fail
      go_ret
      exact ⟨by rw [HT.out]; rfl, hB⟩

theorem ic_row (w : World) (t : TypeId) (zs : List Int) : RowAt (w.alloc (.cells (zs.map (Value.int .i64)).toArray t)) w.heap.size zs.length (ic zs) := by
  have h := RowAt.new w (zs.map (Value.int .i64)).toArray t
  refine RowAt.same (by simpa using h) fun o ho => ?_
  simp [ic, ho]
theorem okU_nine {u : M1.Upd} (h : M1.okU u = true) : (∀ n ∈ M1.ns5 u, M1.nine n) ∧ (u.k = 1 → ∀ n ∈ [u.id, u.pa, u.st, u.en], M1.nine n) ∧ (u.k = 3 → M1.nine u.lv) ∧ (u.k = 1 ∨ u.k = 2 ∨ u.k = 3) := by
  obtain ⟨t1, t2, t3, t4⟩ := M1.okU_tens h
  have q : ∀ n, M1.tenD n → M1.nine n := fun n hn => ⟨hn.1, by have := hn.2; omega⟩
  exact ⟨fun n hn => q n (t1 n hn), fun hk n hn => q n (t2 hk n hn), fun hk => q _ (t3 hk), t4⟩

set_option maxHeartbeats 4000000 in
set_option maxRecDepth 100000 in
theorem l2Text_any (u : M1.Upd) (w : World) (ok : M1.okU u = true) :
    Calls Tryz.prog 29 #[.agg #[.int .i64 u.dr, .int .i64 u.dn, .int .i64 u.sw, .int .i64 u.sc, .int .i64 u.sr, .int .i64 u.k, .int .i64 u.tr, .int .i64 u.id, .int .i64 u.pa, .string u.s, .int .i64 u.st, .int .i64 u.en, .int .i64 u.lv]] w fun e w' => e = .returned (.string (M1.mkB (M1.txt u))) ∧ Below w.heap.size w w' := by
  obtain ⟨n5, n4, n1, hk⟩ := okU_nine ok
  have HLT : Hid ((M1.txt u).length ≤ 200) := M1.txt_len ok
  have hA : Below w.heap.size w (w.alloc (.cells #[.int .i64 u.dr, .int .i64 u.dn, .int .i64 u.sw, .int .i64 u.sc, .int .i64 u.sr, .int .i64 u.k, .int .i64 u.tr, .int .i64 u.id, .int .i64 u.pa, .string u.s, .int .i64 u.st, .int .i64 u.en, .int .i64 u.lv] 47)) := (Below.refl _ _).alloc (Nat.le_refl _) _
  have row0 : RowAt (w.alloc (.cells #[.int .i64 u.dr, .int .i64 u.dn, .int .i64 u.sw, .int .i64 u.sc, .int .i64 u.sr, .int .i64 u.k, .int .i64 u.tr, .int .i64 u.id, .int .i64 u.pa, .string u.s, .int .i64 u.st, .int .i64 u.en, .int .i64 u.lv] 47)) w.heap.size 13 (fun o => (#[.int .i64 u.dr, .int .i64 u.dn, .int .i64 u.sw, .int .i64 u.sc, .int .i64 u.sr, .int .i64 u.k, .int .i64 u.tr, .int .i64 u.id, .int .i64 u.pa, .string u.s, .int .i64 u.st, .int .i64 u.en, .int .i64 u.lv] : Array Value).getD o undef) := RowAt.new w _ _
  go_enter Tryz.func29, Tryz.ntmps29
  go_upto_region 1 with fail
  obtain ⟨W0, hW0⟩ : ∃ W, w.alloc (.cells #[.int .i64 u.dr, .int .i64 u.dn, .int .i64 u.sw, .int .i64 u.sc, .int .i64 u.sr, .int .i64 u.k, .int .i64 u.tr, .int .i64 u.id, .int .i64 u.pa, .string u.s, .int .i64 u.st, .int .i64 u.en, .int .i64 u.lv] 47) = W := ⟨_, rfl⟩
  rw [hW0] at hA row0 ⊢
  clear hW0
  have c0 := row0.cell (o := 0) (by omega)
  have c1 := row0.cell (o := 1) (by omega)
  have c2 := row0.cell (o := 2) (by omega)
  have c3 := row0.cell (o := 3) (by omega)
  have c4 := row0.cell (o := 4) (by omega)
  have c5 := row0.cell (o := 5) (by omega)
  have c6 := row0.cell (o := 6) (by omega)
  have c7 := row0.cell (o := 7) (by omega)
  have c8 := row0.cell (o := 8) (by omega)
  have c9 := row0.cell (o := 9) (by omega)
  have c10 := row0.cell (o := 10) (by omega)
  have c11 := row0.cell (o := 11) (by omega)
  have c12 := row0.cell (o := 12) (by omega)
  simp at c0 c1 c2 c3 c4 c5 c6 c7 c8 c9 c10 c11 c12
  have cl := row0.lt
  have rn : RowAt (W0.alloc (.cells #[.int .i64 u.dr, .int .i64 u.dn, .int .i64 u.sw, .int .i64 u.sc, .int .i64 u.tr] 2)) W0.heap.size 5 (ic (M1.ns5 u)) := ic_row W0 2 (M1.ns5 u)
  have hA1 : Below W0.heap.size W0 (W0.alloc (.cells #[.int .i64 u.dr, .int .i64 u.dn, .int .i64 u.sw, .int .i64 u.sc, .int .i64 u.tr] 2)) := (Below.refl _ _).alloc (Nat.le_refl _) _
  go_wp2_with fail
  refine (l2Row_any [] W0.heap.size 5 5 (M1.ns5 u) _ rfl rn (by omega) (by omega) (by unfold maxLen; omega) (by simp) n5).mono ?_
  rintro e w2 ⟨rfl, hb2⟩
  have hB2 := hA1.trans (hb2.mono hA1.size)
  have row2 := row0.below hB2
  have hBw := hA.trans (hB2.mono hA.size)
  rw [List.nil_append]
  clear c0 c1 c2 c3 c4 c5 c6 c7 c8 c9 c10 c11 c12 cl hB2 row0 rn hA1 hb2
  have c0 := row2.cell (o := 0) (by omega)
  have c1 := row2.cell (o := 1) (by omega)
  have c2 := row2.cell (o := 2) (by omega)
  have c3 := row2.cell (o := 3) (by omega)
  have c4 := row2.cell (o := 4) (by omega)
  have c5 := row2.cell (o := 5) (by omega)
  have c6 := row2.cell (o := 6) (by omega)
  have c7 := row2.cell (o := 7) (by omega)
  have c8 := row2.cell (o := 8) (by omega)
  have c9 := row2.cell (o := 9) (by omega)
  have c10 := row2.cell (o := 10) (by omega)
  have c11 := row2.cell (o := 11) (by omega)
  have c12 := row2.cell (o := 12) (by omega)
  simp at c0 c1 c2 c3 c4 c5 c6 c7 c8 c9 c10 c11 c12
  have cl := row2.lt
  have h5 := M1.row_ten (M1.okU_tens ok).1
  have l5 : (M1.ns5 u).length = 5 := rfl
  rw [l5] at h5
  obtain ⟨R, hR⟩ : ∃ R, Hid (M1.rowL (M1.ns5 u) = R) := ⟨_, rfl⟩
  rw [hR.out] at h5 ⊢
  have hzR := M1.mkB_size R
  have hs2 := hBw.size
  rcases hk with hk | hk | hk
  · have HTX : Hid (M1.txt u = M1.wSpan ++ R ++ M1.rowL [u.id, u.pa, u.st, u.en] ++ 32 :: u.s.data.toList) := (by unfold M1.txt; rw [if_pos hk, hR.out] : _ = _)
    have h4 := M1.row_ten ((M1.okU_tens ok).2.1 hk)
    have N4 : Hid (∀ n ∈ [u.id, u.pa, u.st, u.en], M1.nine n) := n4 hk
    have hsz : u.s.size ≤ 200 := by
      have h1 := HLT.out
      rw [HTX.out, List.length_append, List.length_cons] at h1
      have e : u.s.size = u.s.data.toList.length := by rw [Array.length_toList]; rfl
      omega
    have l4 : ([u.id, u.pa, u.st, u.en] : List Int).length = 4 := rfl
    rw [l4] at h4
    rw [hk] at c5
    have hapS : (⟨#[115, 112, 97, 110]⟩ : ByteArray) ++ M1.mkB R = M1.mkB (M1.wSpan ++ R) := M1.mkB_app M1.wSpan R
    have hz4 : (⟨#[115, 112, 97, 110]⟩ : ByteArray).size = 4 := rfl
    have hz1 : (⟨#[32]⟩ : ByteArray).size = 1 := rfl
    have hw4 : M1.wSpan.length = 4 := rfl
    obtain ⟨Q, hQ⟩ : ∃ Q, Hid (M1.wSpan ++ R ++ M1.rowL [u.id, u.pa, u.st, u.en] = Q) := ⟨_, rfl⟩
    have hQl : Q.length ≤ 200 := by rw [← hQ.out, List.length_append, List.length_append]; omega
    have hzQ := M1.mkB_size Q
    have hapQ : M1.mkB Q ++ (⟨#[32]⟩ : ByteArray) = M1.mkB (Q ++ [32]) := M1.mkB_app Q [32]
    have hzQ1 : (M1.mkB (Q ++ [32])).size = Q.length + 1 := by rw [M1.mkB_size]; simp
    have hapQ2 : M1.mkB (Q ++ [32]) ++ u.s = M1.mkB (Q ++ 32 :: u.s.data.toList) := by
      have := M1.mkB_app (Q ++ [32]) u.s.data.toList
      rw [M1.mkB_of] at this
      rw [this]; simp
    clear hk n4 n1 n5
    have rn4 : RowAt (w2.alloc (.cells #[.int .i64 u.id, .int .i64 u.pa, .int .i64 u.st, .int .i64 u.en] 2)).drew w2.heap.size 4 (ic [u.id, u.pa, u.st, u.en]) := (ic_row w2 2 [u.id, u.pa, u.st, u.en]).below (Below.refl _ _).drew
    go_wp2_with fail
    refine wp_region_held_drew (S := fun w' => Kp w2 w') (by kernel_rfl) ?_ (fun hHeld => ?_)
    · exact kp_zero _
    refine wpAnyH_take (i := 0) (v := ?_) rfl (by kernel_rfl) (by kernel_rfl) (by kernel_rfl) (fun _ _ _ h => h) (Or.inl ⟨by rfl, ?_⟩) hHeld ?_
    rotate_left
    · (intro w hSw; (try dsimp only at hSw); go_simp; try (with_reducible rfl))
    (try simp only [Act.put, aZ, bZ, cZ, dZ, eZ, fZ])
    refine wpAnyH_take (i := 1) (v := .string (M1.mkB (M1.wSpan ++ R))) rfl (by kernel_rfl) (by kernel_rfl) (by kernel_rfl) (fun _ _ _ h => h) (Or.inl ⟨by rfl, ?_⟩) hHeld ?_
    · (intro w hSw; (try dsimp only at hSw); go_simp; (first | done | omega | (rw [if_neg (by omega)])))
    (try simp only [Act.put, aZ, bZ, cZ, dZ, eZ, fZ])
    refine wpAnyH_take (i := 2) (v := ?_) rfl (by kernel_rfl) (by kernel_rfl) (by kernel_rfl) (fun _ _ _ h => h) (Or.inl ⟨by rfl, ?_⟩) hHeld ?_
    rotate_left
    · (intro w hSw; (try dsimp only at hSw); go_simp; try (with_reducible rfl))
    (try simp only [Act.put, aZ, bZ, cZ, dZ, eZ, fZ])
    refine wpAnyH_take (i := 3) (v := ?_) rfl (by kernel_rfl) (by kernel_rfl) (by kernel_rfl) (fun _ _ _ h => h) (Or.inl ⟨by rfl, ?_⟩) hHeld ?_
    rotate_left
    · (intro w hSw; (try dsimp only at hSw); go_simp; try (with_reducible rfl))
    (try simp only [Act.put, aZ, bZ, cZ, dZ, eZ, fZ])
    refine wpAnyH_take (i := 4) (v := ?_) rfl (by kernel_rfl) (by kernel_rfl) (by kernel_rfl) (fun _ _ _ h => h) (Or.inl ⟨by rfl, ?_⟩) hHeld ?_
    rotate_left
    · (intro w hSw; (try dsimp only at hSw); go_simp; try (with_reducible rfl))
    (try simp only [Act.put, aZ, bZ, cZ, dZ, eZ, fZ])
    refine wpAnyH_take (i := 5) (v := ?_) rfl (by kernel_rfl) (by kernel_rfl) (by kernel_rfl) (fun _ _ _ h => h) (Or.inl ⟨by rfl, ?_⟩) hHeld ?_
    rotate_left
    · (intro w hSw; (try dsimp only at hSw); go_simp; try (with_reducible rfl))
    (try simp only [Act.put, aZ, bZ, cZ, dZ, eZ, fZ])
    refine wpAnyH_take (i := 6) (v := ?_) rfl (by kernel_rfl) (by kernel_rfl) (by kernel_rfl) (fun _ _ _ h => h) (Or.inl ⟨by rfl, ?_⟩) hHeld ?_
    rotate_left
    · (intro w hSw; (try dsimp only at hSw); go_simp; try (with_reducible rfl))
    (try simp only [Act.put, aZ, bZ, cZ, dZ, eZ, fZ])
    refine wpAnyH_take (i := 7) (v := ?_) rfl (by kernel_rfl) (by kernel_rfl) (by kernel_rfl) (fun _ _ _ h => h) (Or.inl ⟨by rfl, ?_⟩) hHeld ?_
    rotate_left
    · (intro w hSw; (try dsimp only at hSw); go_simp; try (with_reducible rfl))
    (try simp only [Act.put, aZ, bZ, cZ, dZ, eZ, fZ])
    refine wpAnyH_take (i := 8) (v := ?_) rfl (by kernel_rfl) (by kernel_rfl) (by kernel_rfl) (fun _ _ _ h => h) (Or.inl ⟨by rfl, ?_⟩) hHeld ?_
    rotate_left
    · (intro w hSw; (try dsimp only at hSw); go_simp; try (with_reducible rfl))
    (try simp only [Act.put, aZ, bZ, cZ, dZ, eZ, fZ])
    refine wpAnyH_take (i := 9) (v := ?_) rfl (by kernel_rfl) (by kernel_rfl) (by kernel_rfl) (fun _ _ _ h => h) (Or.inl ⟨by rfl, ?_⟩) hHeld ?_
    rotate_left
    · (intro w hSw; (try dsimp only at hSw); go_simp; try (with_reducible rfl))
    (try simp only [Act.put, aZ, bZ, cZ, dZ, eZ, fZ])
    refine wpAnyH_take (i := 10) (v := ?_) rfl (by kernel_rfl) (by kernel_rfl) (by kernel_rfl) (fun _ _ _ h => h) (Or.inl ⟨by rfl, ?_⟩) hHeld ?_
    rotate_left
    · (intro w hSw; (try dsimp only at hSw); go_simp; try (with_reducible rfl))
    (try simp only [Act.put, aZ, bZ, cZ, dZ, eZ, fZ])
    refine wpAnyH_take (i := 11) (v := ?_) rfl (by kernel_rfl) (by kernel_rfl) (by kernel_rfl) (fun _ _ _ h => h) (Or.inl ⟨by rfl, ?_⟩) hHeld ?_
    rotate_left
    · (intro w hSw; (try dsimp only at hSw); go_simp; try (with_reducible rfl))
    (try simp only [Act.put, aZ, bZ, cZ, dZ, eZ, fZ])
    refine wpAnyH_take (i := 12) (v := ?_) rfl (by kernel_rfl) (by kernel_rfl) (by kernel_rfl) (fun _ _ _ h => h) (Or.inl ⟨by rfl, ?_⟩) hHeld ?_
    rotate_left
    · (intro w hSw; (try dsimp only at hSw); go_simp; try (with_reducible rfl))
    (try simp only [Act.put, aZ, bZ, cZ, dZ, eZ, fZ])
    refine wpAnyH_take (i := 13) (v := ?_) rfl (by kernel_rfl) (by kernel_rfl) (by kernel_rfl) (fun _ _ _ h => h) (Or.inl ⟨by rfl, ?_⟩) hHeld ?_
    rotate_left
    · (intro w hSw; (try dsimp only at hSw); go_simp; try (with_reducible rfl))
    (try simp only [Act.put, aZ, bZ, cZ, dZ, eZ, fZ])
    refine wpAnyH_take (i := 17) (v := ?_) rfl (by kernel_rfl) (by kernel_rfl) (by kernel_rfl) (fun _ _ _ h => h) (Or.inl ⟨by rfl, ?_⟩) hHeld ?_
    rotate_left
    · (intro w hSw; (try dsimp only at hSw); go_simp; try (with_reducible rfl))
    (try simp only [Act.put, aZ, bZ, cZ, dZ, eZ, fZ])
    refine wpAnyH_take (i := 18) (v := ?_) rfl (by kernel_rfl) (by kernel_rfl) (by kernel_rfl) (fun _ _ _ h => h) (Or.inl ⟨by rfl, ?_⟩) hHeld ?_
    rotate_left
    · (intro w hSw; (try dsimp only at hSw); go_simp; try (with_reducible rfl))
    (try simp only [Act.put, aZ, bZ, cZ, dZ, eZ, fZ])
    refine wpAnyH_take (i := 19) (v := ?_) rfl (by kernel_rfl) (by kernel_rfl) (by kernel_rfl) (fun _ _ _ h => h) (Or.inl ⟨by rfl, ?_⟩) hHeld ?_
    rotate_left
    · (intro w hSw; (try dsimp only at hSw); go_simp; try (with_reducible rfl))
    (try simp only [Act.put, aZ, bZ, cZ, dZ, eZ, fZ])
    refine wpAnyH_ready (rs := [14]) (by kernel_rfl) (by simp) ?_
    refine AllReadyH.cons (o := _) rfl (fun K hK => ?_) AllReadyH.nil
    go_simp
    skip
    refine hK.out _ _ ?_ (fun hHeld2 => ?_)
    · exact kp_alloc hHeld _
    clear hK K hHeld
    have hHeld := hHeld2
    clear hHeld2
    (try simp only [Act.put, aZ, bZ, cZ, dZ, eZ, fZ])
    refine wpAnyH_ready (rs := [15]) (by kernel_rfl) (by simp) ?_
    refine AllReadyH.cons (o := _) rfl (fun K hK => ?_) AllReadyH.nil
    go_simp
    (refine (l2Row_any (M1.wSpan ++ R) _ 4 4 [u.id, u.pa, u.st, u.en] _ rfl rn4 (by omega) (by omega) (by unfold maxLen; omega) (by rw [List.length_append]; omega) N4).mono ?_; rw [hQ.out]; rintro e w8 ⟨rfl, hb8⟩; go_wp2_with fail)
    refine hK.out _ _ ?_ (fun hHeld2 => ?_)
    · exact kp_step hHeld hb8
    clear hK K hHeld
    have hHeld := hHeld2
    clear hHeld2
    (try simp only [Act.put, aZ, bZ, cZ, dZ, eZ, fZ])
    refine wpAnyH_take (i := 16) (v := .string (M1.mkB (Q ++ [32]))) rfl (by kernel_rfl) (by kernel_rfl) (by kernel_rfl) (fun _ _ _ h => h) (Or.inl ⟨by rfl, ?_⟩) hHeld ?_
    · (intro w hSw; (try dsimp only at hSw); go_simp; (first | done | omega | (rw [if_neg (by omega)])))
    (try simp only [Act.put, aZ, bZ, cZ, dZ, eZ, fZ])
    refine wpAnyH_take (i := 20) (v := .string (M1.mkB (Q ++ 32 :: u.s.data.toList))) rfl (by kernel_rfl) (by kernel_rfl) (by kernel_rfl) (fun _ _ _ h => h) (Or.inl ⟨by rfl, ?_⟩) hHeld ?_
    · (intro w hSw; (try dsimp only at hSw); go_simp; (first | done | omega | (rw [if_neg (by omega)])))
    (try simp only [Act.put, aZ, bZ, cZ, dZ, eZ, fZ])
    refine wpAnyH_take (i := 21) (v := ?_) rfl (by kernel_rfl) (by kernel_rfl) (by kernel_rfl) (fun _ _ _ h => h) (Or.inl ⟨by rfl, ?_⟩) hHeld ?_
    rotate_left
    · (intro w hSw; (try dsimp only at hSw); go_simp; try (with_reducible rfl))
    (try simp only [Act.put, aZ, bZ, cZ, dZ, eZ, fZ])
    refine wpAnyH_done (by kernel_rfl) ?_ _
    have hB9 := hBw.trans (hHeld.1.mono hBw.size)
    clear hHeld
    go_wp2_with fail
    go_ret
    refine ⟨?_, hB9⟩
    rw [HTX.out, hQ.out]
    rfl
  · have HTX : Hid (M1.txt u = M1.wKeep ++ R) := (by unfold M1.txt; rw [if_neg (by omega), if_pos hk, hR.out] : _ = _)
    rw [hk] at c5
    have hapS : (⟨#[107, 101, 101, 112]⟩ : ByteArray) ++ M1.mkB R = M1.mkB (M1.wKeep ++ R) := M1.mkB_app M1.wKeep R
    have hz4 : (⟨#[107, 101, 101, 112]⟩ : ByteArray).size = 4 := rfl
    clear hk n4 n1 n5
    go_wp2_with fail
    go_ret
    exact ⟨by rw [HTX.out]; rfl, hBw⟩
  · have HTX : Hid (M1.txt u = M1.wLife ++ R ++ M1.rowL [u.lv]) := (by unfold M1.txt; rw [if_neg (by omega), if_neg (by omega), hR.out] : _ = _)
    have N1 : Hid (∀ n ∈ [u.lv], M1.nine n) := fun n hn => by
      have e : n = u.lv := by simpa using hn
      rw [e]; exact n1 hk
    rw [hk] at c5
    have hapS : (⟨#[108, 105, 102, 101]⟩ : ByteArray) ++ M1.mkB R = M1.mkB (M1.wLife ++ R) := M1.mkB_app M1.wLife R
    have hz4 : (⟨#[108, 105, 102, 101]⟩ : ByteArray).size = 4 := rfl
    have hw4 : M1.wLife.length = 4 := rfl
    have hA3 : Below w2.heap.size w2 (w2.alloc (.cells #[.int .i64 u.lv] 2)) := (Below.refl _ _).alloc (Nat.le_refl _) _
    have rn3 : RowAt (w2.alloc (.cells #[.int .i64 u.lv] 2)) w2.heap.size 1 (ic [u.lv]) := ic_row w2 2 [u.lv]
    clear hk n4 n1 n5
    go_wp2_with fail
    refine (l2Row_any (M1.wLife ++ R) _ 1 1 [u.lv] _ rfl rn3 (by omega) (by omega) (by unfold maxLen; omega) (by rw [List.length_append]; omega) N1).mono ?_
    rintro e w8 ⟨rfl, hb8⟩
    have hB9 := (hBw.trans (hA3.mono hBw.size)).trans (hb8.mono (by have := hA3.size; omega))
    go_wp2_with fail
    go_ret
    exact ⟨by rw [HTX.out]; rfl, hB9⟩

set_option maxHeartbeats 4000000 in
set_option maxRecDepth 100000 in
theorem updateText_spec (u : M1.Upd) (w : World) (hs : u.s.size ≤ maxLen) :
    Calls Tryz.prog 40 #[.agg #[.int .i64 u.dr, .int .i64 u.dn, .int .i64 u.sw, .int .i64 u.sc, .int .i64 u.sr, .int .i64 u.k, .int .i64 u.tr, .int .i64 u.id, .int .i64 u.pa, .string u.s, .int .i64 u.st, .int .i64 u.en, .int .i64 u.lv]] w fun e w' => e = .returned (.string (M1.utx u)) ∧ Below w.heap.size w w' := by
  have hA : Below w.heap.size w (w.alloc (.cells #[.int .i64 u.dr, .int .i64 u.dn, .int .i64 u.sw, .int .i64 u.sc, .int .i64 u.sr, .int .i64 u.k, .int .i64 u.tr, .int .i64 u.id, .int .i64 u.pa, .string u.s, .int .i64 u.st, .int .i64 u.en, .int .i64 u.lv] 47)) := (Below.refl _ _).alloc (Nat.le_refl _) _
  have row0 : RowAt (w.alloc (.cells #[.int .i64 u.dr, .int .i64 u.dn, .int .i64 u.sw, .int .i64 u.sc, .int .i64 u.sr, .int .i64 u.k, .int .i64 u.tr, .int .i64 u.id, .int .i64 u.pa, .string u.s, .int .i64 u.st, .int .i64 u.en, .int .i64 u.lv] 47)) w.heap.size 13 (fun o => (#[.int .i64 u.dr, .int .i64 u.dn, .int .i64 u.sw, .int .i64 u.sc, .int .i64 u.sr, .int .i64 u.k, .int .i64 u.tr, .int .i64 u.id, .int .i64 u.pa, .string u.s, .int .i64 u.st, .int .i64 u.en, .int .i64 u.lv] : Array Value).getD o undef) := RowAt.new w _ _
  obtain ⟨ok, hok⟩ : ∃ b, Hid (M1.okU u = b) := ⟨_, rfl⟩
  go_enter Tryz.func40, Tryz.ntmps40
  go_upto_region 1 with fail
  obtain ⟨W0, hW0⟩ : ∃ W, w.alloc (.cells #[.int .i64 u.dr, .int .i64 u.dn, .int .i64 u.sw, .int .i64 u.sc, .int .i64 u.sr, .int .i64 u.k, .int .i64 u.tr, .int .i64 u.id, .int .i64 u.pa, .string u.s, .int .i64 u.st, .int .i64 u.en, .int .i64 u.lv] 47) = W := ⟨_, rfl⟩
  rw [hW0] at hA row0 ⊢
  clear hW0
  have c0 := row0.cell (o := 0) (by omega)
  have c1 := row0.cell (o := 1) (by omega)
  have c2 := row0.cell (o := 2) (by omega)
  have c3 := row0.cell (o := 3) (by omega)
  have c4 := row0.cell (o := 4) (by omega)
  have c5 := row0.cell (o := 5) (by omega)
  have c6 := row0.cell (o := 6) (by omega)
  have c7 := row0.cell (o := 7) (by omega)
  have c8 := row0.cell (o := 8) (by omega)
  have c9 := row0.cell (o := 9) (by omega)
  have c10 := row0.cell (o := 10) (by omega)
  have c11 := row0.cell (o := 11) (by omega)
  have c12 := row0.cell (o := 12) (by omega)
  simp at c0 c1 c2 c3 c4 c5 c6 c7 c8 c9 c10 c11 c12
  have cl := row0.lt
  go_wp2_with fail
  refine (updateOk_spec u.dr u.dn u.sw u.sc u.sr u.k u.tr u.id u.pa u.st u.en u.lv u.s _ hs).mono ?_
  rw [show M1.updB u.dr u.dn u.sw u.sc u.sr u.k u.tr u.id u.pa u.s u.st u.en u.lv = ok from hok.out]
  rintro e w1 ⟨rfl, hb1⟩
  have hB1 := hA.trans (hb1.mono hA.size)
  cases ok with
  | false =>
    have HU : Hid (M1.utx u = ByteArray.empty) := (by unfold M1.utx; rw [hok.out]; rfl : _ = _)
    go_wp2_with fail
    go_ret
    exact ⟨by rw [HU.out]; rfl, hB1⟩
  | true =>
    have HU : Hid (M1.utx u = M1.mkB (M1.txt u)) := (by unfold M1.utx; rw [hok.out]; rfl : _ = _)
    have row1 := row0.below hb1
    clear c0 c1 c2 c3 c4 c5 c6 c7 c8 c9 c10 c11 c12 cl
    have c0 := row1.cell (o := 0) (by omega)
    have c1 := row1.cell (o := 1) (by omega)
    have c2 := row1.cell (o := 2) (by omega)
    have c3 := row1.cell (o := 3) (by omega)
    have c4 := row1.cell (o := 4) (by omega)
    have c5 := row1.cell (o := 5) (by omega)
    have c6 := row1.cell (o := 6) (by omega)
    have c7 := row1.cell (o := 7) (by omega)
    have c8 := row1.cell (o := 8) (by omega)
    have c9 := row1.cell (o := 9) (by omega)
    have c10 := row1.cell (o := 10) (by omega)
    have c11 := row1.cell (o := 11) (by omega)
    have c12 := row1.cell (o := 12) (by omega)
    simp at c0 c1 c2 c3 c4 c5 c6 c7 c8 c9 c10 c11 c12
    have cl := row1.lt
    go_wp2_with fail
    refine (l2Text_any u _ hok.out).mono ?_
    rintro e w2 ⟨rfl, hb2⟩
    go_wp2_with fail
    go_ret
    exact ⟨by rw [HU.out]; rfl, hB1.trans (hb2.mono hB1.size)⟩
end Go.Proofs.YtbhidjagmonnaaaGreatDoor
