/-
  The contract of the program's spansByStart: a copy of the spans, by start, of one start by number.
-/
import Derived.Test.YtdpeopmbboogaaaZLongest42
import Derived.Test.YtdpeopmbboogaaaZLongest37
import Derived.Test.YtdpeopmbboogaaaZLongest18
import Derived.Laws.Cover3
namespace M1
theorem ord_st (u v : Upd) : orI (cmpI u.st v.st) (cmpI u.id v.id) < 0 ↔ stlt u v := by
  unfold orI cmpI stlt
  by_cases a1 : u.st < v.st
  · simp [a1]
  · by_cases a2 : v.st < u.st
    · simp [a1, a2]; omega
    · have a3 : u.st = v.st := by omega
      by_cases b1 : u.id < v.id
      · simp [a3, b1]
      · by_cases b2 : v.id < u.id
        · simp [a3, b1, b2]
        · simp [a3, b1, b2]
theorem bySt_is {S ns : List Upd} (hS : S.Pairwise idlt) (hp : ns.Perm S) (hs : ∀ i j, i < j → j < ns.length → ¬ stlt (up ns j) (up ns i)) : ns = bySt S := by
  refine st_unique ?_ (bySt_sorted (ids_of hS)) (hp.trans (bySt_perm S).symm)
  have hi : ids ns := ids_perm hp (ids_of hS)
  unfold ids at hi
  rw [List.pairwise_iff_getElem] at hi ⊢
  intro i j h1 h2 hij
  have q := hs i j hij h2
  have e1 : up ns i = ns[i] := by simp [up, List.getD, h1]
  have e2 : up ns j = ns[j] := by simp [up, List.getD, h2]
  rw [e1, e2] at q
  rcases st_tri (hi i j h1 h2 hij) with r | r
  · exact r
  · exact absurd r q
end M1
namespace Go.Proofs.Ytdpeopmbboogaaa
open Go.ChangeShapes Go.WideShapes Go.ChangeAt Go.RowKit Go.Sort Go.Shelf Go.Lib
set_option linter.unusedSimpArgs false
set_option linter.unusedVariables false

set_option maxHeartbeats 2000000 in
theorem byStart1_grew (u v : M1.Upd) (w : World) :
    Calls Try.prog 56 #[.agg #[.int .i64 u.id, .int .i64 u.pa, .string u.s, .int .i64 u.st, .int .i64 u.en], .agg #[.int .i64 v.id, .int .i64 v.pa, .string v.s, .int .i64 v.st, .int .i64 v.en]] w fun e w' => e = .returned (.int .i64 (M1.orI (M1.cmpI u.st v.st) (M1.cmpI u.id v.id))) ∧ Grew w w' := by
  go_enter Try.func56, Try.ntmps56
  go_wp2_with fail
  refine wp_region_held_drew (S := fun w' => Kp ((w.alloc (Obj.cells #[.int .i64 u.id, .int .i64 u.pa, .string u.s, .int .i64 u.st, .int .i64 u.en] 34)).alloc (Obj.cells #[.int .i64 v.id, .int .i64 v.pa, .string v.s, .int .i64 v.st, .int .i64 v.en] 34)) w') (by kernel_rfl) ?_ (fun hHeld => ?_)
  · exact kp_zero _
  refine wpAnyH_take (i := 0) (v := ?_) rfl (by kernel_rfl) (by kernel_rfl) (by kernel_rfl) (fun _ _ _ h => h) (Or.inl ⟨by rfl, ?_⟩) hHeld ?_
  rotate_left
  · (intro w hSw; (try dsimp only at hSw); go_simp; try (with_reducible rfl))
  (try simp only [Act.put, List.getElem_toArray, List.getElem_cons_zero, List.getElem_cons_succ, List.setIfInBounds_toArray, List.set_cons_zero, List.set_cons_succ])
  refine wpAnyH_take (i := 1) (v := ?_) rfl (by kernel_rfl) (by kernel_rfl) (by kernel_rfl) (fun _ _ _ h => h) (Or.inl ⟨by rfl, ?_⟩) hHeld ?_
  rotate_left
  · (intro w hSw; (try dsimp only at hSw); go_simp; try (with_reducible rfl))
  (try simp only [Act.put, List.getElem_toArray, List.getElem_cons_zero, List.getElem_cons_succ, List.setIfInBounds_toArray, List.set_cons_zero, List.set_cons_succ])
  refine wpAnyH_take (i := 2) (v := ?_) rfl (by kernel_rfl) (by kernel_rfl) (by kernel_rfl) (fun _ _ _ h => h) (Or.inl ⟨by rfl, ?_⟩) hHeld ?_
  rotate_left
  · (intro w hSw; (try dsimp only at hSw); go_simp; try (with_reducible rfl))
  (try simp only [Act.put, List.getElem_toArray, List.getElem_cons_zero, List.getElem_cons_succ, List.setIfInBounds_toArray, List.set_cons_zero, List.set_cons_succ])
  refine wpAnyH_take (i := 3) (v := ?_) rfl (by kernel_rfl) (by kernel_rfl) (by kernel_rfl) (fun _ _ _ h => h) (Or.inl ⟨by rfl, ?_⟩) hHeld ?_
  rotate_left
  · (intro w hSw; (try dsimp only at hSw); go_simp; try (with_reducible rfl))
  (try simp only [Act.put, List.getElem_toArray, List.getElem_cons_zero, List.getElem_cons_succ, List.setIfInBounds_toArray, List.set_cons_zero, List.set_cons_succ])
  refine wpAnyH_take (i := 5) (v := ?_) rfl (by kernel_rfl) (by kernel_rfl) (by kernel_rfl) (fun _ _ _ h => h) (Or.inl ⟨by rfl, ?_⟩) hHeld ?_
  rotate_left
  · (intro w hSw; (try dsimp only at hSw); go_simp; try (with_reducible rfl))
  (try simp only [Act.put, List.getElem_toArray, List.getElem_cons_zero, List.getElem_cons_succ, List.setIfInBounds_toArray, List.set_cons_zero, List.set_cons_succ])
  refine wpAnyH_take (i := 6) (v := ?_) rfl (by kernel_rfl) (by kernel_rfl) (by kernel_rfl) (fun _ _ _ h => h) (Or.inl ⟨by rfl, ?_⟩) hHeld ?_
  rotate_left
  · (intro w hSw; (try dsimp only at hSw); go_simp; try (with_reducible rfl))
  (try simp only [Act.put, List.getElem_toArray, List.getElem_cons_zero, List.getElem_cons_succ, List.setIfInBounds_toArray, List.set_cons_zero, List.set_cons_succ])
  refine wpAnyH_take (i := 7) (v := ?_) rfl (by kernel_rfl) (by kernel_rfl) (by kernel_rfl) (fun _ _ _ h => h) (Or.inl ⟨by rfl, ?_⟩) hHeld ?_
  rotate_left
  · (intro w hSw; (try dsimp only at hSw); go_simp; try (with_reducible rfl))
  (try simp only [Act.put, List.getElem_toArray, List.getElem_cons_zero, List.getElem_cons_succ, List.setIfInBounds_toArray, List.set_cons_zero, List.set_cons_succ])
  refine wpAnyH_take (i := 8) (v := ?_) rfl (by kernel_rfl) (by kernel_rfl) (by kernel_rfl) (fun _ _ _ h => h) (Or.inl ⟨by rfl, ?_⟩) hHeld ?_
  rotate_left
  · (intro w hSw; (try dsimp only at hSw); go_simp; try (with_reducible rfl))
  (try simp only [Act.put, List.getElem_toArray, List.getElem_cons_zero, List.getElem_cons_succ, List.setIfInBounds_toArray, List.set_cons_zero, List.set_cons_succ])
  refine wpAnyH_ready (rs := [4]) (by kernel_rfl) (by simp) ?_
  refine AllReadyH.cons (o := _) rfl (fun K hK => ?_) AllReadyH.nil
  go_simp
  (refine (compare_any _ _ _).mono ?_; rintro e w' ⟨rfl, hbw⟩; subst hbw; go_wp2_with fail)
  refine hK.out _ _ ?_ (fun hHeld2 => ?_)
  · exact hHeld
  clear hK K hHeld
  have hHeld := hHeld2
  clear hHeld2
  (try simp only [Act.put, List.getElem_toArray, List.getElem_cons_zero, List.getElem_cons_succ, List.setIfInBounds_toArray, List.set_cons_zero, List.set_cons_succ])
  refine wpAnyH_ready (rs := [9]) (by kernel_rfl) (by simp) ?_
  refine AllReadyH.cons (o := _) rfl (fun K hK => ?_) AllReadyH.nil
  go_simp
  (refine (compare_any _ _ _).mono ?_; rintro e w' ⟨rfl, hbw⟩; subst hbw; go_wp2_with fail)
  refine hK.out _ _ ?_ (fun hHeld2 => ?_)
  · exact hHeld
  clear hK K hHeld
  have hHeld := hHeld2
  clear hHeld2
  (try simp only [Act.put, List.getElem_toArray, List.getElem_cons_zero, List.getElem_cons_succ, List.setIfInBounds_toArray, List.set_cons_zero, List.set_cons_succ])
  refine wpAnyH_ready (rs := [10]) (by kernel_rfl) (by simp) ?_
  refine AllReadyH.cons (o := _) rfl (fun K hK => ?_) AllReadyH.nil
  go_simp
  skip
  refine hK.out _ _ ?_ (fun hHeld2 => ?_)
  · exact kp_alloc hHeld _
  clear hK K hHeld
  have hHeld := hHeld2
  clear hHeld2
  (try simp only [Act.put, List.getElem_toArray, List.getElem_cons_zero, List.getElem_cons_succ, List.setIfInBounds_toArray, List.set_cons_zero, List.set_cons_succ])
  refine wpAnyH_ready (rs := [11]) (by kernel_rfl) (by simp) ?_
  refine AllReadyH.cons (o := _) rfl (fun K hK => ?_) AllReadyH.nil
  go_simp
  (refine (cmpOr_two (w.heap.size + 1 + 1) (M1.cmpI u.st v.st) (M1.cmpI u.id v.id) _ (by go_simp) (by go_simp)).mono ?_; rintro e w' ⟨rfl, hbw⟩; subst hbw; go_wp2_with fail)
  refine hK.out _ _ ?_ (fun hHeld2 => ?_)
  · exact hHeld
  clear hK K hHeld
  have hHeld := hHeld2
  clear hHeld2
  (try simp only [Act.put, List.getElem_toArray, List.getElem_cons_zero, List.getElem_cons_succ, List.setIfInBounds_toArray, List.set_cons_zero, List.set_cons_succ])
  refine wpAnyH_take (i := 12) (v := ?_) rfl (by kernel_rfl) (by kernel_rfl) (by kernel_rfl) (fun _ _ _ h => h) (Or.inl ⟨by rfl, ?_⟩) hHeld ?_
  rotate_left
  · (intro w hSw; (try dsimp only at hSw); go_simp; try (with_reducible rfl))
  (try simp only [Act.put, List.getElem_toArray, List.getElem_cons_zero, List.getElem_cons_succ, List.setIfInBounds_toArray, List.set_cons_zero, List.set_cons_succ])
  refine wpAnyH_done (by kernel_rfl) ?_ _
  clear hHeld
  go_wp2_with fail
  go_ret
  refine ⟨rfl, ?_⟩
  repeat (first | exact Grew.refl _ | refine Grew.drew ?_ | refine Grew.alloc ?_ _)

/-- The order of the starts, as the closure tells it. -/
def ordT (u v : M1.Upd) : Int := M1.orI (M1.cmpI u.st v.st) (M1.cmpI u.id v.id)
theorem ltT (u v : M1.Upd) : ltOf ordT u v = M1.stB u v := by
  unfold ltOf ordT
  rw [Bool.eq_iff_iff, M1.stB_iff]
  simp [M1.ord_st]
theorem swoT : SWO (ltOf ordT) where
  irrefl x := by rw [ltT]; have := M1.st_irr x; rw [← M1.stB_iff] at this; simpa using this
  trans x y z h1 h2 := by rw [ltT, M1.stB_iff] at *; exact M1.st_trans h1 h2
  ntrans x y z h1 h2 := by
    rw [ltT] at *
    have e : ∀ a b, M1.stB a b = false ↔ ¬ M1.stlt a b := fun a b => by rw [← M1.stB_iff]; simp
    rw [e] at *
    unfold M1.stlt at *; omega
theorem cmpT (blk off size : Nat) (w : World) : CmpLays Try.prog 56 #[] scs 5 ordT blk off size w :=
  fun _ _ _ _ x y => byStart1_grew x y _

theorem sortT_any (blk cap : Nat) (us : List M1.Upd) (w : World) (hrow : RowAt w blk (us.length * 5) (scell us)) (hn : us.length ≤ 1048576) :
    Calls Try.prog 43 #[.slice (some ⟨blk, 0, none⟩) us.length cap, .func (.func 56) #[] #[]] w fun e w' => e = .returned (.tuple #[]) ∧ ∃ ns : List M1.Upd, ns.Perm us ∧ (∀ i j, i < j → j < ns.length → ¬ M1.stlt (M1.up ns j) (M1.up ns i)) ∧ RowAt w' blk (us.length * 5) (scell ns) ∧ Gr blk w w' := by
  have eg : ∀ args w, (callFunc 56 args).run Try.prog w = .ok (.enter 56 args) w := enters_of Try.func56 (by kernel_rfl) rfl
  have hcon := AnyQ.slices_SortFunc Try.sortS 5 isAggS sizeOfS scs (fun _ => rfl) oneS ordT swoT 56 #[] blk 0 cap us.toArray w eg (cmpT blk 0 _ w) (holdsS hrow) hrow.lt (by simp; omega)
  simp only [List.size_toArray] at hcon
  refine Calls.mono hcon ?_
  rintro e w' ⟨rfl, d', n, os, hp, hs, rfl⟩
  obtain ⟨h1, _, h3⟩ := hp
  have hsz : d'.size = us.length := by simpa using h1
  have e1 : d'.extract 0 us.length = d' := by rw [← hsz]; simp
  have e2 : us.toArray.extract 0 us.length = us.toArray := by simp
  rw [e1, e2] at h3
  have hl : d'.toList.length = us.length := by simpa using hsz
  refine ⟨rfl, d'.toList, by simpa using h3, fun i j hij hj => ?_, ?_, grSortS _ _ _ _ _⟩
  · have := hs i j (Nat.zero_le _) hij (by omega)
    rw [ltT] at this
    have ea : ∀ i, d'[i]! = M1.up d'.toList i := fun i => by
      have := up_toArrayS d'.toList i
      simpa using this
    rw [ea, ea] at this
    intro q
    rw [(M1.stB_iff _ _).2 q] at this
    cases this
  · rw [← hl]
    refine ofHoldsS ?_ ?_
    · have := holdsK_sortWorldK_c (enc := scs) (k := 5) (w := w) (blk := blk) (off := 0) us.toArray d' n os (holdsS hrow) hrow.lt (by simpa using hsz)
      simpa using this
    · have := size_sortWorldK_c (enc := scs) (k := 5) (w := w) (blk := blk) (off := 0) n d' os
      have h2 := hrow.lt
      omega

theorem sL_len (us : List M1.Upd) : (sL us).length = us.length * 5 := by
  induction us with
  | nil => rfl
  | cons u t ih =>
    have e : sL (u :: t) = scs u ++ sL t := rfl
    rw [e, List.length_append, ih]
    simp [scs]; omega
theorem sL_one (us : List M1.Upd) : ∀ v ∈ sL us, v.oneCell' = true := by
  intro v hv
  obtain ⟨u, _, h⟩ := List.mem_flatMap.1 hv
  exact oneSc u v h
theorem sL_cells {w : World} {g n : Nat} {S : List M1.Upd} (hl : S.length = n) (h : RowAt w g (n * 5) (scell S)) : ∀ j u, (sL S)[j]? = some u → w.cell? ((⟨g, 0, none⟩ : Addr).add j) = some u := by
  intro j u hu
  have hj : j < S.length * 5 := by
    have := (List.getElem?_eq_some_iff.1 hu).1
    rw [sL_len] at this; exact this
  have e := sL_get S j hj
  have e2 : (sL S).getD j undef = u := by rw [List.getD_eq_getElem?_getD, hu]; rfl
  have q := h.cell (o := j) (by rw [← hl]; exact hj)
  rw [← e, e2] at q
  by_cases hj0 : j = 0
  · subst hj0; exact q
  · have ea : (⟨g, 0, none⟩ : Addr).add j = ⟨g, j, none⟩ := by simp [Addr.add, hj0]
    rw [ea]; exact q

set_option maxHeartbeats 8000000 in
set_option maxRecDepth 100000 in
@[go_sem] theorem eqlSpNil (w : World) (a : Option Addr) (l c : Nat) : (binOp .eql 31 (.slice a l c) (.slice none 0 0)).run Try.prog w = .ok (.bool a.isNone) w := by
  simp only [binOp]
  simp [run_equal_slice_nil w _ _ a l c Try.underlying31]
theorem cloneSp_any (av : Option Addr) (m c B : Nat) (S : List M1.Upd) (w : World) (h : SpIn w av m c B S) (hm60 : m ≤ 1000) :
    Calls Try.prog 55 #[.slice av m c] w fun e w' => (∃ (a : Option Addr) (c2 : Nat), e = .returned (.slice a m c2) ∧ MG w' a m c2 w.heap.size w'.heap.size (scell S)) ∧ Below w.heap.size w w' := by
  have hl : Hid (S.length = m) := h.len
  have hm1 := h.cap
  have hm2 := h.most
  unfold maxLen at hm2
  cases av with
  | none =>
    have hm0 : m = 0 := by
      rcases h.lies with h0 | ⟨g, e, _⟩
      · exact h0
      · cases e
    subst hm0
    go_enter Try.func55, Try.ntmps55
    go_wp2_with fail
    go_ret
    exact ⟨⟨none, 0, rfl, Nat.le_refl _, by unfold maxLen; omega, Or.inl ⟨rfl, rfl⟩⟩, Below.refl _ _⟩
  | some ad =>
    obtain ⟨ti, hi1, hi2, hi3, hi4⟩ := infoS
    have hi4' : Hid (ti.bytes = 48) := hi4
    have hi2' : Hid (ti.zero = some (.agg #[.int .i64 0, .int .i64 0, .string ByteArray.empty, .int .i64 0, .int .i64 0])) := hi2
    have hi3' : Hid (ti.size = 5) := hi3
    have hi1' : Hid (Try.prog.info? 34 = some ti) := hi1
    clear hi1 hi2 hi3 hi4
    have own0 := ownsS_empty w 34
    have hA : Below w.heap.size w (w.alloc (.cells #[] 34)) := (Below.refl _ _).alloc (Nat.le_refl _) _
    by_cases hm0 : m = 0
    · subst hm0
      have hSn : S = [] := List.eq_nil_of_length_eq_zero hl.out
      subst hSn
      have mg := MG.of_ownsS (us := []) rfl own0
      go_enter Try.func55, Try.ntmps55
      go_wp2_with (at_builtin; refine wpList_append_zero rfl _ _ _ rfl w.heap.size 34 ti 5 Try.underlying31 hi1'.out _ 0 (sL []) rfl own0 _ _ rfl ?_)
      go_ret
      exact ⟨⟨_, _, rfl, mg⟩, hA⟩
    · rcases h.lies with h0 | ⟨g, e, hgB, r1⟩
      · exact absurd h0 hm0
      injection e with e
      subst e
      have hgl := r1.lt
      have r2 := r1.below hA
      have hcl := sL_cells hl.out r2
      have hsl : (sL S).length = m * 5 := by rw [sL_len, hl.out]
      go_enter Try.func55, Try.ntmps55
      go_wp2_with (at_builtin; refine wpList_append_lies _ rfl _ _ _ rfl w.heap.size 34 ti _ 5 48 Try.underlying31 hi1'.out hi2'.out hi3'.out hi4'.out rfl (by omega) (.slice (some ⟨w.heap.size, 0, none⟩) 0 0) 0 (sL []) rfl own0 ⟨g, 0, none⟩ m c (sL S) rfl hsl hcl (sL_one S) (by omega) (by unfold maxLen; omega) (by omega) (by simp) _ rfl ?_; intro g4 cap4 w4 hown4 hgrow4 hat4 hlt4)
      go_ret
      have hB4 : Below w.heap.size w w4 := hA.grown hgrow4 (by simp) (owns_base own0)
      have e0 : sL [] ++ sL S = sL S := rfl
      rw [e0, Nat.zero_add] at hown4
      have mg := MG.of_ownsS hl.out hown4
      exact ⟨⟨_, _, rfl, mg⟩, hB4⟩
end Go.Proofs.Ytdpeopmbboogaaa
