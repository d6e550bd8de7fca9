/-
  Contracts of Since, of the model and of the program.
-/
import Derived.Test.YtekmmkibpekkpaaSinceS
namespace Go.Proofs.Ytekmmkibpekkpaa
open Go.ChangeShapes Go.WideShapes Go.ChangeAt Go.RowKit
set_option linter.unusedSimpArgs false
set_option linter.unusedVariables false

/-- What Since leaves: a row of its own, and whether it could be told. -/
def Told (w w' : World) (e : Ending) (ns : List M1.Upd) (ok : Bool) : Prop := ∃ v, e = .returned (.tuple #[v, .bool ok]) ∧ w'.ownsRow w.heap.size 37 13 v ns.length (ucL ns)

theorem sinceOk_set {us : List M1.Upd} {ds : List (Int × Int)} {most : Int} (h : M1.setOk us = false) : M1.sinceOk us ds most = false ∧ M1.sinceL us ds most = [] := by
  have : M1.sinceOk us ds most = false := by unfold M1.sinceOk; rw [h]; rfl
  exact ⟨this, by unfold M1.sinceL; rw [this]; rfl⟩
theorem sinceOk_vec {us : List M1.Upd} {ds : List (Int × Int)} {most : Int} (h : M1.vecOk ds = false) : M1.sinceOk us ds most = false ∧ M1.sinceL us ds most = [] := by
  have : M1.sinceOk us ds most = false := by unfold M1.sinceOk; rw [h]; simp
  exact ⟨this, by unfold M1.sinceL; rw [this]; rfl⟩
theorem sinceOk_most {us : List M1.Upd} {ds : List (Int × Int)} {most : Int} (h : M1.inB most 1 60 = false) : M1.sinceOk us ds most = false ∧ M1.sinceL us ds most = [] := by
  have : M1.sinceOk us ds most = false := by unfold M1.sinceOk; rw [h]; simp
  exact ⟨this, by unfold M1.sinceL; rw [this]; rfl⟩
theorem sinceOk_yes {us : List M1.Upd} {ds : List (Int × Int)} {most : Int} (h1 : M1.setOk us = true) (h2 : M1.vecOk ds = true) (h3 : M1.inB most 1 60 = true) : M1.sinceOk us ds most = true ∧ M1.sinceL us ds most = M1.sinceTo us ds most us.length := by
  have : M1.sinceOk us ds most = true := by unfold M1.sinceOk; rw [h1, h2, h3]; rfl
  exact ⟨this, by unfold M1.sinceL; rw [if_pos this]⟩

theorem since_spec (av bv : Option Addr) (n cn m cm : Nat) (us : List M1.Upd) (ds : List (Int × Int)) (most : Int) (w : World) (h1 : IsUpds w av n cn us) (h2 : IsVec w bv m cm ds) :
    Calls Try.prog 21 #[.slice av n cn, .slice bv m cm, .int .i64 most] w fun e w' => Told w w' e (M1.sinceL us ds most) (M1.sinceOk us ds most) ∧ Below w.heap.size w w' := by
  have hl1 : Hid (us.length = n) := h1.hlen
  by_cases hs : M1.setOk us = true
  · by_cases hv : M1.vecOk ds = true
    · by_cases hm : M1.inB most 1 60 = true
      · have q := sinceOk_yes hs hv hm
        have hmm := M1.inB_true hm
        have HV : Hid (M1.vecOk ds = true) := hv
        have hn60 : n ≤ 1048576 := by have := M1.setOk_len hs; have := hl1.out; omega
        rw [q.1, q.2, hl1.out]
        clear q
        go_enter Try.func21, Try.ntmps21
        go_wp2_with fail
        refine (setOk_spec _ _ _ _ _ h1).mono ?_
        rw [hs]
        rintro e w1 ⟨rfl, hb1⟩
        go_wp2_with fail
        refine (vecOk_spec _ _ _ _ _ (h2.below hb1)).mono ?_
        rw [hv]
        rintro e w2 ⟨rfl, hb2⟩
        have hB2 := hb1.trans (hb2.mono hb1.size)
        go_wp2_with fail
        refine (l1In_any _ _ _ _).mono ?_
        rw [hm]
        rintro e w3 ⟨rfl, hw3⟩
        subst hw3
        go_wp2_with fail
        refine (l3Since_any _ _ _ _ _ _ _ _ _ _ (h1.below hB2) (h2.below hB2) HV hn60 (by omega) (by omega)).mono ?_
        rintro e w4 ⟨⟨v, rfl, hown⟩, hb4⟩
        go_wp2_with fail
        refine bodyPost_ret (v := .tuple #[v, .bool true]) (by simp [results, Try.results21, go_sem]) rfl ⟨⟨v, rfl, owns_less hown hB2.size⟩, hB2.trans (hb4.mono hB2.size)⟩
      · replace hm : M1.inB most 1 60 = false := by simpa using hm
        have q := sinceOk_most (us := us) (ds := ds) hm
        rw [q.1, q.2]
        clear q
        go_enter Try.func21, Try.ntmps21
        go_wp2_with fail
        refine (setOk_spec _ _ _ _ _ h1).mono ?_
        rw [hs]
        rintro e w1 ⟨rfl, hb1⟩
        go_wp2_with fail
        refine (vecOk_spec _ _ _ _ _ (h2.below hb1)).mono ?_
        rw [hv]
        rintro e w2 ⟨rfl, hb2⟩
        have hB2 := hb1.trans (hb2.mono hb1.size)
        go_wp2_with fail
        refine (l1In_any _ _ _ _).mono ?_
        rw [hm]
        rintro e w3 ⟨rfl, hw3⟩
        subst hw3
        go_wp2_with fail
        refine bodyPost_ret (v := .tuple #[.slice none 0 0, .bool false]) (by simp [results, Try.results21, go_sem]) rfl ⟨⟨_, rfl, ownsU_nil _ _ _⟩, hB2⟩
    · replace hv : M1.vecOk ds = false := by simpa using hv
      have q := sinceOk_vec (us := us) (most := most) hv
      rw [q.1, q.2]
      clear q
      go_enter Try.func21, Try.ntmps21
      go_wp2_with fail
      refine (setOk_spec _ _ _ _ _ h1).mono ?_
      rw [hs]
      rintro e w1 ⟨rfl, hb1⟩
      go_wp2_with fail
      refine (vecOk_spec _ _ _ _ _ (h2.below hb1)).mono ?_
      rw [hv]
      rintro e w2 ⟨rfl, hb2⟩
      have hB2 := hb1.trans (hb2.mono hb1.size)
      go_wp2_with fail
      refine bodyPost_ret (v := .tuple #[.slice none 0 0, .bool false]) (by simp [results, Try.results21, go_sem]) rfl ⟨⟨_, rfl, ownsU_nil _ _ _⟩, hB2⟩
  · replace hs : M1.setOk us = false := by simpa using hs
    have q := sinceOk_set (ds := ds) (most := most) hs
    rw [q.1, q.2]
    clear q
    go_enter Try.func21, Try.ntmps21
    go_wp2_with fail
    refine (setOk_spec _ _ _ _ _ h1).mono ?_
    rw [hs]
    rintro e w1 ⟨rfl, hb1⟩
    go_wp2_with fail
    refine bodyPost_ret (v := .tuple #[.slice none 0 0, .bool false]) (by simp [results, Try.results21, go_sem]) rfl ⟨⟨_, rfl, ownsU_nil _ _ _⟩, hb1⟩

theorem RowAt.grown {a b : World} {g m : Nat} {f : Nat → Value} {row : Option Nat} (h : RowAt a g m f) (hg : a.grownBy b row) (hn : ∀ k, row = some k → ¬ k = g) : RowAt b g m f := by
  have e := hg.block g h.lt (fun e => hn g e.symm rfl)
  exact ⟨Nat.lt_of_lt_of_le h.lt hg.size, fun o ho => ⟨(World.cell?_of_block (w := a) e).trans (h.2 o ho).1, (World.frozen?_of_block (w := a) e).trans (h.2 o ho).2⟩⟩

theorem row5 (w : World) (a b c d e : Int) (t : TypeId) (f : Nat → Value) (h0 : f 0 = .int .i64 a) (h1 : f 1 = .int .i64 b) (h2 : f 2 = .int .i64 c) (h3 : f 3 = .int .i64 d) (h4 : f 4 = .int .i64 e) : RowAt (w.alloc (.cells #[.int .i64 a, .int .i64 b, .int .i64 c, .int .i64 d, .int .i64 e] t)) w.heap.size 5 f :=
  (RowAt.new w #[.int .i64 a, .int .i64 b, .int .i64 c, .int .i64 d, .int .i64 e] t).same fun o ho => by
    match o, ho with
    | 0, _ => exact h0.symm
    | 1, _ => exact h1.symm
    | 2, _ => exact h2.symm
    | 3, _ => exact h3.symm
    | 4, _ => exact h4.symm

set_option maxHeartbeats 16000000 in
set_option maxRecDepth 100000 in
theorem since_go (av bv : Option Addr) (n cn m cm : Nat) (us : List M1.Upd) (ds : List (Int × Int)) (most : Int) (w : World) (h1 : IsUpds w av n cn us) (h2 : IsVec w bv m cm ds) (hs : M1.setOk us = true) (hv : M1.vecOk ds = true) (hm : M1.inB most 1 60 = true) :
    Calls Try.prog 20 #[.slice av n cn, .slice bv m cm, .int .i64 most] w fun e w' => Told w w' e (M1.sinceTo us ds most n) true ∧ Below w.heap.size w w' := by
  have hl1 : Hid (us.length = n) := h1.hlen
  have hm1 := h1.hcap
  have hm2 := h1.hmost
  have hmm := M1.inB_true hm
  unfold maxLen at hm2
  have HS : Hid (∀ j, j < us.length → M1.okAt us j = true) := M1.setOk_all hs
  have hn60 : n ≤ 60 := by have := M1.setOk_len hs; have := hl1.out; omega
  obtain ⟨ti, hi1, hi2, hi3, hi4⟩ := infoUpd
  have hi4' : Hid (ti.bytes = 112) := hi4
  have hi2' : Hid (ti.zero = some (.agg #[.int .i64 0, .int .i64 0, .int .i64 0, .int .i64 0, .int .i64 0, .int .i64 0, .int .i64 0, .int .i64 0, .int .i64 0, .string ByteArray.empty, .int .i64 0, .int .i64 0, .int .i64 0])) := hi2
  have hi3' : Hid (ti.size = 13) := hi3
  have hi1' : Hid (Try.prog.info? 37 = some ti) := hi1
  clear hi1 hi2 hi3 hi4
  go_enter Try.func20, Try.ntmps20
  go_wp2_with fail
  refine (vectorFrom_yes _ _ _ _ _ h2 hv).mono ?_
  rintro e w1 ⟨rfl, hb1⟩
  have hA := hb1.alloc hb1.size (.cells #[.int .i64 (M1.lk ds 1), .int .i64 (M1.lk ds 2), .int .i64 (M1.lk ds 3), .int .i64 (M1.lk ds 4), .int .i64 (M1.lk ds 5)] 72)
  have hs1 := hb1.size
  have rowA : RowAt (w1.alloc (.cells #[.int .i64 (M1.lk ds 1), .int .i64 (M1.lk ds 2), .int .i64 (M1.lk ds 3), .int .i64 (M1.lk ds 4), .int .i64 (M1.lk ds 5)] 72)) w1.heap.size 5 (fun o => .int .i64 (M1.lk ds ((o : Int) + 1))) := row5 w1 _ _ _ _ _ _ _ rfl rfl rfl rfl rfl
  go_wp2_with fail
  refine (setOk_impl _ _ _ _ _ (h1.below hA)).mono ?_
  rw [hs]
  rintro e w2 ⟨rfl, hb2⟩
  have hB2 := hA.trans (hb2.mono hA.size)
  have row2 := rowA.below hb2
  clear rowA
  go_wp2_with fail
  refine (inRange_any _ _ _ _).mono ?_
  rw [hm]
  rintro e w3 ⟨rfl, hw3⟩
  subst hw3
  clear hs hv hm
  go_wp2_with fail
  go_loopw [10, 32] (fun v i wr => ∃ (k : Nat) (ns : List M1.Upd) (x : Option Addr) (c : Nat), k ≤ n ∧ i = .int .i64 k ∧ Hid (M1.sinceTo us ds most k = ns) ∧ ns.length ≤ k ∧ v = .slice x ns.length c ∧ wr.ownsRow (w1.heap.size + 1) 37 13 (.slice x ns.length c) ns.length (ucL ns) ∧ Below w.heap.size w wr ∧ RowAt wr w1.heap.size 5 (fun o => .int .i64 (M1.lk ds ((o : Int) + 1)))) (fun _ i _ => n - (intOf i).toNat)
  case atStart => exact ⟨0, [], none, 0, Nat.zero_le _, rfl, (rfl : M1.sinceTo us ds most 0 = []), Nat.le_refl _, rfl, ownsU_nil _ _ _, hB2, row2⟩
  case round =>
    clear row2 hB2 hb2
    obtain ⟨k, ns, xv, xc, hk, rfl, hns, hnl, rfl, hown, hB, hrow⟩ := hrel
    by_cases hlt : k < n
    · have g1 := h1.below hB
      rcases g1.hlies with h0 | ⟨b, off, rfl, hb, hc⟩
      · omega
      obtain ⟨c0, c1, c2, c3, c4, c5, c6, c7, c8, c9, c10, c11, c12⟩ := hc k hlt
      have i0 : (0 : Int) ≤ (k : Int) := by omega
      have i1 : (k : Int) < (n : Int) := by omega
      have hsz := hB.size
      have hkl : k < us.length := by have := hl1.out; omega
      obtain ⟨q1, q2, _, _⟩ := M1.ok_rg HS.out hkl
      have htx : (M1.up us k).s.size ≤ 1000 := by have := M1.ok_txt (M1.okAt_ok (HS.out k hkl)); omega
      have hgl := hrow.lt
      have ht : ((M1.up us k).dr.toNat - 1) < 5 := by omega
      have hrow' := hrow.alloc (.cells #[.int .i64 (M1.up us k).dr, .int .i64 (M1.up us k).dn, .int .i64 (M1.up us k).sw, .int .i64 (M1.up us k).sc, .int .i64 (M1.up us k).sr, .int .i64 (M1.up us k).k, .int .i64 (M1.up us k).tr, .int .i64 (M1.up us k).id, .int .i64 (M1.up us k).pa, .string (M1.up us k).s, .int .i64 (M1.up us k).st, .int .i64 (M1.up us k).en, .int .i64 (M1.up us k).lv] 37)
      have d1 : wr.cell? ⟨w1.heap.size, (M1.up us k).dr.toNat - 1, none⟩ = some (.int .i64 (M1.lk ds (M1.up us k).dr)) := by
        rw [hrow.cell ht]; exact congrArg (fun z => some (Value.int .i64 (M1.lk ds z))) (by omega)
      have hne : ¬ w1.heap.size = wr.heap.size := by omega
      have j5 : IntKind.i64.wrap ((M1.up us k).dr - 1) = (M1.up us k).dr - 1 := IntWalk.i64_in _ (by omega)
      have j0 : (0 : Int) ≤ (M1.up us k).dr - 1 := by omega
      have j1 : (M1.up us k).dr - 1 < 5 := by omega
      have hlt2 : w1.heap.size < wr.heap.size + 1 := by omega
      clear hc g1
      by_cases hfull : (ns.length : Int) < most
      · have hfb : decide ((ns.length : Int) < most) = true := decide_eq_true hfull
        by_cases hq : M1.lk ds (M1.up us k).dr < (M1.up us k).dn
        · have HE : Hid (M1.sinceTo us ds most (k + 1) = ns ++ [M1.up us k]) := (by rw [M1.since_yes (by rw [hns.out]; exact ⟨hfull, hq⟩), hns.out] : M1.sinceTo us ds most (k + 1) = ns ++ [M1.up us k])
          have hqb : decide (M1.lk ds (M1.up us k).dr < (M1.up us k).dn) = true := decide_eq_true hq
          go_wp2_with fail
          refine wp_region_held_drew (S := fun w' => Kp (wr.alloc (.cells #[.int .i64 (M1.up us k).dr, .int .i64 (M1.up us k).dn, .int .i64 (M1.up us k).sw, .int .i64 (M1.up us k).sc, .int .i64 (M1.up us k).sr, .int .i64 (M1.up us k).k, .int .i64 (M1.up us k).tr, .int .i64 (M1.up us k).id, .int .i64 (M1.up us k).pa, .string (M1.up us k).s, .int .i64 (M1.up us k).st, .int .i64 (M1.up us k).en, .int .i64 (M1.up us k).lv] 37)) w') (by kernel_rfl) ?_ (fun hHeld => ?_)
          · exact kp_zero _
          refine wpAnyH_take (i := 0) (v := ?_) rfl (by kernel_rfl) (by kernel_rfl) (by kernel_rfl) (fun _ _ _ h => h) (Or.inl ⟨by rfl, ?_⟩) hHeld ?_
          rotate_left
          · (intro w hSw; (try dsimp only at hSw); go_simp; try (with_reducible rfl))
          (try simp only [Act.put, List.getElem_toArray, List.getElem_cons_zero, List.getElem_cons_succ, List.setIfInBounds_toArray, List.set_cons_zero, List.set_cons_succ])
          refine wpAnyH_take (i := 1) (v := ?_) rfl (by kernel_rfl) (by kernel_rfl) (by kernel_rfl) (fun _ _ _ h => h) (Or.inl ⟨by rfl, ?_⟩) hHeld ?_
          rotate_left
          · (intro w hSw; (try dsimp only at hSw); go_simp; try (with_reducible rfl))
          (try simp only [Act.put, List.getElem_toArray, List.getElem_cons_zero, List.getElem_cons_succ, List.setIfInBounds_toArray, List.set_cons_zero, List.set_cons_succ])
          refine wpAnyH_take (i := 2) (v := ?_) rfl (by kernel_rfl) (by kernel_rfl) (by kernel_rfl) (fun _ _ _ h => h) (Or.inl ⟨by rfl, ?_⟩) hHeld ?_
          rotate_left
          · (intro w hSw; (try dsimp only at hSw); go_simp; try (with_reducible rfl))
          (try simp only [Act.put, List.getElem_toArray, List.getElem_cons_zero, List.getElem_cons_succ, List.setIfInBounds_toArray, List.set_cons_zero, List.set_cons_succ])
          refine wpAnyH_take (i := 3) (v := ?_) rfl (by kernel_rfl) (by kernel_rfl) (by kernel_rfl) (fun _ _ _ h => h) (Or.inl ⟨by rfl, ?_⟩) hHeld ?_
          rotate_left
          · (intro w hSw; (try dsimp only at hSw); go_simp; try (with_reducible rfl))
          (try simp only [Act.put, List.getElem_toArray, List.getElem_cons_zero, List.getElem_cons_succ, List.setIfInBounds_toArray, List.set_cons_zero, List.set_cons_succ])
          refine wpAnyH_take (i := 4) (v := ?_) rfl (by kernel_rfl) (by kernel_rfl) (by kernel_rfl) (fun _ _ _ h => h) (Or.inl ⟨by rfl, ?_⟩) hHeld ?_
          rotate_left
          · (intro w hSw; (try dsimp only at hSw); go_simp; try (with_reducible rfl))
          (try simp only [Act.put, List.getElem_toArray, List.getElem_cons_zero, List.getElem_cons_succ, List.setIfInBounds_toArray, List.set_cons_zero, List.set_cons_succ])
          refine wpAnyH_take (i := 5) (v := ?_) rfl (by kernel_rfl) (by kernel_rfl) (by kernel_rfl) (fun _ _ _ h => h) (Or.inl ⟨by rfl, ?_⟩) hHeld ?_
          rotate_left
          · (intro w hSw; (try dsimp only at hSw); go_simp; try (with_reducible rfl))
          (try simp only [Act.put, List.getElem_toArray, List.getElem_cons_zero, List.getElem_cons_succ, List.setIfInBounds_toArray, List.set_cons_zero, List.set_cons_succ])
          refine wpAnyH_take (i := 6) (v := ?_) rfl (by kernel_rfl) (by kernel_rfl) (by kernel_rfl) (fun _ _ _ h => h) (Or.inl ⟨by rfl, ?_⟩) hHeld ?_
          rotate_left
          · (intro w hSw; (try dsimp only at hSw); go_simp; try (with_reducible rfl))
          (try simp only [Act.put, List.getElem_toArray, List.getElem_cons_zero, List.getElem_cons_succ, List.setIfInBounds_toArray, List.set_cons_zero, List.set_cons_succ])
          refine wpAnyH_take (i := 7) (v := ?_) rfl (by kernel_rfl) (by kernel_rfl) (by kernel_rfl) (fun _ _ _ h => h) (Or.inl ⟨by rfl, ?_⟩) hHeld ?_
          rotate_left
          · (intro w hSw; (try dsimp only at hSw); go_simp; try (with_reducible rfl))
          (try simp only [Act.put, List.getElem_toArray, List.getElem_cons_zero, List.getElem_cons_succ, List.setIfInBounds_toArray, List.set_cons_zero, List.set_cons_succ])
          refine wpAnyH_take (i := 8) (v := ?_) rfl (by kernel_rfl) (by kernel_rfl) (by kernel_rfl) (fun _ _ _ h => h) (Or.inl ⟨by rfl, ?_⟩) hHeld ?_
          rotate_left
          · (intro w hSw; (try dsimp only at hSw); go_simp; try (with_reducible rfl))
          (try simp only [Act.put, List.getElem_toArray, List.getElem_cons_zero, List.getElem_cons_succ, List.setIfInBounds_toArray, List.set_cons_zero, List.set_cons_succ])
          refine wpAnyH_take (i := 9) (v := ?_) rfl (by kernel_rfl) (by kernel_rfl) (by kernel_rfl) (fun _ _ _ h => h) (Or.inl ⟨by rfl, ?_⟩) hHeld ?_
          rotate_left
          · (intro w hSw; (try dsimp only at hSw); go_simp; try (with_reducible rfl))
          (try simp only [Act.put, List.getElem_toArray, List.getElem_cons_zero, List.getElem_cons_succ, List.setIfInBounds_toArray, List.set_cons_zero, List.set_cons_succ])
          refine wpAnyH_take (i := 10) (v := ?_) rfl (by kernel_rfl) (by kernel_rfl) (by kernel_rfl) (fun _ _ _ h => h) (Or.inl ⟨by rfl, ?_⟩) hHeld ?_
          rotate_left
          · (intro w hSw; (try dsimp only at hSw); go_simp; try (with_reducible rfl))
          (try simp only [Act.put, List.getElem_toArray, List.getElem_cons_zero, List.getElem_cons_succ, List.setIfInBounds_toArray, List.set_cons_zero, List.set_cons_succ])
          refine wpAnyH_take (i := 11) (v := ?_) rfl (by kernel_rfl) (by kernel_rfl) (by kernel_rfl) (fun _ _ _ h => h) (Or.inl ⟨by rfl, ?_⟩) hHeld ?_
          rotate_left
          · (intro w hSw; (try dsimp only at hSw); go_simp; try (with_reducible rfl))
          (try simp only [Act.put, List.getElem_toArray, List.getElem_cons_zero, List.getElem_cons_succ, List.setIfInBounds_toArray, List.set_cons_zero, List.set_cons_succ])
          refine wpAnyH_take (i := 12) (v := ?_) rfl (by kernel_rfl) (by kernel_rfl) (by kernel_rfl) (fun _ _ _ h => h) (Or.inl ⟨by rfl, ?_⟩) hHeld ?_
          rotate_left
          · (intro w hSw; (try dsimp only at hSw); go_simp; try (with_reducible rfl))
          (try simp only [Act.put, List.getElem_toArray, List.getElem_cons_zero, List.getElem_cons_succ, List.setIfInBounds_toArray, List.set_cons_zero, List.set_cons_succ])
          refine wpAnyH_take (i := 13) (v := ?_) rfl (by kernel_rfl) (by kernel_rfl) (by kernel_rfl) (fun _ _ _ h => h) (Or.inl ⟨by rfl, ?_⟩) hHeld ?_
          rotate_left
          · (intro w hSw; (try dsimp only at hSw); go_simp; try (with_reducible rfl))
          (try simp only [Act.put, List.getElem_toArray, List.getElem_cons_zero, List.getElem_cons_succ, List.setIfInBounds_toArray, List.set_cons_zero, List.set_cons_succ])
          refine wpAnyH_take (i := 14) (v := ?_) rfl (by kernel_rfl) (by kernel_rfl) (by kernel_rfl) (fun _ _ _ h => h) (Or.inl ⟨by rfl, ?_⟩) hHeld ?_
          rotate_left
          · (intro w hSw; (try dsimp only at hSw); go_simp; try (with_reducible rfl))
          (try simp only [Act.put, List.getElem_toArray, List.getElem_cons_zero, List.getElem_cons_succ, List.setIfInBounds_toArray, List.set_cons_zero, List.set_cons_succ])
          refine wpAnyH_take (i := 15) (v := ?_) rfl (by kernel_rfl) (by kernel_rfl) (by kernel_rfl) (fun _ _ _ h => h) (Or.inl ⟨by rfl, ?_⟩) hHeld ?_
          rotate_left
          · (intro w hSw; (try dsimp only at hSw); go_simp; try (with_reducible rfl))
          (try simp only [Act.put, List.getElem_toArray, List.getElem_cons_zero, List.getElem_cons_succ, List.setIfInBounds_toArray, List.set_cons_zero, List.set_cons_succ])
          refine wpAnyH_done (by kernel_rfl) ?_ _
          have hK1 := hHeld
          clear hHeld
          generalize (wr.alloc (.cells #[.int .i64 (M1.up us k).dr, .int .i64 (M1.up us k).dn, .int .i64 (M1.up us k).sw, .int .i64 (M1.up us k).sc, .int .i64 (M1.up us k).sr, .int .i64 (M1.up us k).k, .int .i64 (M1.up us k).tr, .int .i64 (M1.up us k).id, .int .i64 (M1.up us k).pa, .string (M1.up us k).s, .int .i64 (M1.up us k).st, .int .i64 (M1.up us k).en, .int .i64 (M1.up us k).lv] 37)).drew = W1 at hK1 ⊢
          have hKB : Below wr.heap.size wr W1 := ((Below.refl _ _).alloc (Nat.le_refl _) _).trans (hK1.1.mono (by simp))
          have hB1 := hB.trans (hKB.mono hB.size)
          have hown1 := owns_below hown hKB
          have hrow1 := hrow.below hKB
          have hK2 := hK1.2
          clear hK1
          go_wp2_with fail
          refine (copyOf_any (M1.up us k) _ htx).mono ?_
          rintro e w2 ⟨rfl, hb2⟩
          have hB2 := hB1.trans (hb2.mono hB1.size)
          have hown2 := owns_below hown1 hb2
          have hrow2 := hrow1.below hb2
          have hsz2 := hB2.size
          have hgl2 := hrow2.lt
          clear hK2
          go_wp2_with (at_builtin; refine wpList_append_lies _ rfl _ _ _ rfl (w1.heap.size + 1) 37 ti _ 13 112 Try.underlying24 hi1'.out hi2'.out hi3'.out hi4'.out rfl (by omega) (.slice xv ns.length xc) ns.length (ucL ns) rfl (owns_below hown2 ((Below.refl _ _).alloc (Nat.le_refl _) _)) ⟨w2.heap.size, 0, none⟩ 1 1 [.int .i64 (M1.up us k).dr, .int .i64 (M1.up us k).dn, .int .i64 (M1.up us k).sw, .int .i64 (M1.up us k).sc, .int .i64 (M1.up us k).sr, .int .i64 (M1.up us k).k, .int .i64 (M1.up us k).tr, .int .i64 (M1.up us k).id, .int .i64 (M1.up us k).pa, .string (M1.up us k).s, .int .i64 (M1.up us k).st, .int .i64 (M1.up us k).en, .int .i64 (M1.up us k).lv] rfl rfl (news13 _ _ _ _ _ _ _ _ _ _ _ _ _ _ _) (one13 _) (by omega) (by unfold maxLen; omega) (by omega) (by simp; omega) _ rfl ?_; intro g4 cap4 w4 hown4 hgrow4 hat4 hlt4)
          have hB4 : Below w.heap.size w w4 := (hB2.alloc hB2.size _).grown hgrow4 (by simp; omega) (fun q e => by have := owns_base hown2 q e; omega)
          have el : (ns ++ [M1.up us k]).length = ns.length + 1 := by simp
          have hrow4 : RowAt w4 w1.heap.size 5 (fun o => .int .i64 (M1.lk ds ((o : Int) + 1))) := (hrow2.alloc _).grown hgrow4 (fun q e => by have := owns_base hown2 q e; omega)
          exact ⟨⟨k + 1, ns ++ [M1.up us k], some ⟨g4, 0, none⟩, cap4, by omega, by go_num, HE, by omega, by rw [el], (by have q := ownsU_snoc (u := M1.up us k) hown4; rw [el] at q ⊢; exact q), hB4, hrow4⟩, by simp [intOf]; omega⟩
        · have HE : Hid (M1.sinceTo us ds most (k + 1) = ns) := (by rw [M1.since_no (by intro q; exact hq q.2), hns.out] : M1.sinceTo us ds most (k + 1) = ns)
          have hqb : decide (M1.lk ds (M1.up us k).dr < (M1.up us k).dn) = false := decide_eq_false hq
          go_wp2_with fail
          refine wp_region_held_drew (S := fun w' => Kp (wr.alloc (.cells #[.int .i64 (M1.up us k).dr, .int .i64 (M1.up us k).dn, .int .i64 (M1.up us k).sw, .int .i64 (M1.up us k).sc, .int .i64 (M1.up us k).sr, .int .i64 (M1.up us k).k, .int .i64 (M1.up us k).tr, .int .i64 (M1.up us k).id, .int .i64 (M1.up us k).pa, .string (M1.up us k).s, .int .i64 (M1.up us k).st, .int .i64 (M1.up us k).en, .int .i64 (M1.up us k).lv] 37)) w') (by kernel_rfl) ?_ (fun hHeld => ?_)
          · exact kp_zero _
          refine wpAnyH_take (i := 0) (v := ?_) rfl (by kernel_rfl) (by kernel_rfl) (by kernel_rfl) (fun _ _ _ h => h) (Or.inl ⟨by rfl, ?_⟩) hHeld ?_
          rotate_left
          · (intro w hSw; (try dsimp only at hSw); go_simp; try (with_reducible rfl))
          (try simp only [Act.put, List.getElem_toArray, List.getElem_cons_zero, List.getElem_cons_succ, List.setIfInBounds_toArray, List.set_cons_zero, List.set_cons_succ])
          refine wpAnyH_take (i := 1) (v := ?_) rfl (by kernel_rfl) (by kernel_rfl) (by kernel_rfl) (fun _ _ _ h => h) (Or.inl ⟨by rfl, ?_⟩) hHeld ?_
          rotate_left
          · (intro w hSw; (try dsimp only at hSw); go_simp; try (with_reducible rfl))
          (try simp only [Act.put, List.getElem_toArray, List.getElem_cons_zero, List.getElem_cons_succ, List.setIfInBounds_toArray, List.set_cons_zero, List.set_cons_succ])
          refine wpAnyH_take (i := 2) (v := ?_) rfl (by kernel_rfl) (by kernel_rfl) (by kernel_rfl) (fun _ _ _ h => h) (Or.inl ⟨by rfl, ?_⟩) hHeld ?_
          rotate_left
          · (intro w hSw; (try dsimp only at hSw); go_simp; try (with_reducible rfl))
          (try simp only [Act.put, List.getElem_toArray, List.getElem_cons_zero, List.getElem_cons_succ, List.setIfInBounds_toArray, List.set_cons_zero, List.set_cons_succ])
          refine wpAnyH_take (i := 3) (v := ?_) rfl (by kernel_rfl) (by kernel_rfl) (by kernel_rfl) (fun _ _ _ h => h) (Or.inl ⟨by rfl, ?_⟩) hHeld ?_
          rotate_left
          · (intro w hSw; (try dsimp only at hSw); go_simp; try (with_reducible rfl))
          (try simp only [Act.put, List.getElem_toArray, List.getElem_cons_zero, List.getElem_cons_succ, List.setIfInBounds_toArray, List.set_cons_zero, List.set_cons_succ])
          refine wpAnyH_take (i := 4) (v := ?_) rfl (by kernel_rfl) (by kernel_rfl) (by kernel_rfl) (fun _ _ _ h => h) (Or.inl ⟨by rfl, ?_⟩) hHeld ?_
          rotate_left
          · (intro w hSw; (try dsimp only at hSw); go_simp; try (with_reducible rfl))
          (try simp only [Act.put, List.getElem_toArray, List.getElem_cons_zero, List.getElem_cons_succ, List.setIfInBounds_toArray, List.set_cons_zero, List.set_cons_succ])
          refine wpAnyH_take (i := 5) (v := ?_) rfl (by kernel_rfl) (by kernel_rfl) (by kernel_rfl) (fun _ _ _ h => h) (Or.inl ⟨by rfl, ?_⟩) hHeld ?_
          rotate_left
          · (intro w hSw; (try dsimp only at hSw); go_simp; try (with_reducible rfl))
          (try simp only [Act.put, List.getElem_toArray, List.getElem_cons_zero, List.getElem_cons_succ, List.setIfInBounds_toArray, List.set_cons_zero, List.set_cons_succ])
          refine wpAnyH_take (i := 6) (v := ?_) rfl (by kernel_rfl) (by kernel_rfl) (by kernel_rfl) (fun _ _ _ h => h) (Or.inl ⟨by rfl, ?_⟩) hHeld ?_
          rotate_left
          · (intro w hSw; (try dsimp only at hSw); go_simp; try (with_reducible rfl))
          (try simp only [Act.put, List.getElem_toArray, List.getElem_cons_zero, List.getElem_cons_succ, List.setIfInBounds_toArray, List.set_cons_zero, List.set_cons_succ])
          refine wpAnyH_take (i := 7) (v := ?_) rfl (by kernel_rfl) (by kernel_rfl) (by kernel_rfl) (fun _ _ _ h => h) (Or.inl ⟨by rfl, ?_⟩) hHeld ?_
          rotate_left
          · (intro w hSw; (try dsimp only at hSw); go_simp; try (with_reducible rfl))
          (try simp only [Act.put, List.getElem_toArray, List.getElem_cons_zero, List.getElem_cons_succ, List.setIfInBounds_toArray, List.set_cons_zero, List.set_cons_succ])
          refine wpAnyH_take (i := 8) (v := ?_) rfl (by kernel_rfl) (by kernel_rfl) (by kernel_rfl) (fun _ _ _ h => h) (Or.inl ⟨by rfl, ?_⟩) hHeld ?_
          rotate_left
          · (intro w hSw; (try dsimp only at hSw); go_simp; try (with_reducible rfl))
          (try simp only [Act.put, List.getElem_toArray, List.getElem_cons_zero, List.getElem_cons_succ, List.setIfInBounds_toArray, List.set_cons_zero, List.set_cons_succ])
          refine wpAnyH_take (i := 9) (v := ?_) rfl (by kernel_rfl) (by kernel_rfl) (by kernel_rfl) (fun _ _ _ h => h) (Or.inl ⟨by rfl, ?_⟩) hHeld ?_
          rotate_left
          · (intro w hSw; (try dsimp only at hSw); go_simp; try (with_reducible rfl))
          (try simp only [Act.put, List.getElem_toArray, List.getElem_cons_zero, List.getElem_cons_succ, List.setIfInBounds_toArray, List.set_cons_zero, List.set_cons_succ])
          refine wpAnyH_take (i := 10) (v := ?_) rfl (by kernel_rfl) (by kernel_rfl) (by kernel_rfl) (fun _ _ _ h => h) (Or.inl ⟨by rfl, ?_⟩) hHeld ?_
          rotate_left
          · (intro w hSw; (try dsimp only at hSw); go_simp; try (with_reducible rfl))
          (try simp only [Act.put, List.getElem_toArray, List.getElem_cons_zero, List.getElem_cons_succ, List.setIfInBounds_toArray, List.set_cons_zero, List.set_cons_succ])
          refine wpAnyH_take (i := 11) (v := ?_) rfl (by kernel_rfl) (by kernel_rfl) (by kernel_rfl) (fun _ _ _ h => h) (Or.inl ⟨by rfl, ?_⟩) hHeld ?_
          rotate_left
          · (intro w hSw; (try dsimp only at hSw); go_simp; try (with_reducible rfl))
          (try simp only [Act.put, List.getElem_toArray, List.getElem_cons_zero, List.getElem_cons_succ, List.setIfInBounds_toArray, List.set_cons_zero, List.set_cons_succ])
          refine wpAnyH_take (i := 12) (v := ?_) rfl (by kernel_rfl) (by kernel_rfl) (by kernel_rfl) (fun _ _ _ h => h) (Or.inl ⟨by rfl, ?_⟩) hHeld ?_
          rotate_left
          · (intro w hSw; (try dsimp only at hSw); go_simp; try (with_reducible rfl))
          (try simp only [Act.put, List.getElem_toArray, List.getElem_cons_zero, List.getElem_cons_succ, List.setIfInBounds_toArray, List.set_cons_zero, List.set_cons_succ])
          refine wpAnyH_take (i := 13) (v := ?_) rfl (by kernel_rfl) (by kernel_rfl) (by kernel_rfl) (fun _ _ _ h => h) (Or.inl ⟨by rfl, ?_⟩) hHeld ?_
          rotate_left
          · (intro w hSw; (try dsimp only at hSw); go_simp; try (with_reducible rfl))
          (try simp only [Act.put, List.getElem_toArray, List.getElem_cons_zero, List.getElem_cons_succ, List.setIfInBounds_toArray, List.set_cons_zero, List.set_cons_succ])
          refine wpAnyH_take (i := 14) (v := ?_) rfl (by kernel_rfl) (by kernel_rfl) (by kernel_rfl) (fun _ _ _ h => h) (Or.inl ⟨by rfl, ?_⟩) hHeld ?_
          rotate_left
          · (intro w hSw; (try dsimp only at hSw); go_simp; try (with_reducible rfl))
          (try simp only [Act.put, List.getElem_toArray, List.getElem_cons_zero, List.getElem_cons_succ, List.setIfInBounds_toArray, List.set_cons_zero, List.set_cons_succ])
          refine wpAnyH_take (i := 15) (v := ?_) rfl (by kernel_rfl) (by kernel_rfl) (by kernel_rfl) (fun _ _ _ h => h) (Or.inl ⟨by rfl, ?_⟩) hHeld ?_
          rotate_left
          · (intro w hSw; (try dsimp only at hSw); go_simp; try (with_reducible rfl))
          (try simp only [Act.put, List.getElem_toArray, List.getElem_cons_zero, List.getElem_cons_succ, List.setIfInBounds_toArray, List.set_cons_zero, List.set_cons_succ])
          refine wpAnyH_done (by kernel_rfl) ?_ _
          have hK1 := hHeld
          clear hHeld
          generalize (wr.alloc (.cells #[.int .i64 (M1.up us k).dr, .int .i64 (M1.up us k).dn, .int .i64 (M1.up us k).sw, .int .i64 (M1.up us k).sc, .int .i64 (M1.up us k).sr, .int .i64 (M1.up us k).k, .int .i64 (M1.up us k).tr, .int .i64 (M1.up us k).id, .int .i64 (M1.up us k).pa, .string (M1.up us k).s, .int .i64 (M1.up us k).st, .int .i64 (M1.up us k).en, .int .i64 (M1.up us k).lv] 37)).drew = W1 at hK1 ⊢
          have hKB : Below wr.heap.size wr W1 := ((Below.refl _ _).alloc (Nat.le_refl _) _).trans (hK1.1.mono (by simp))
          have hB1 := hB.trans (hKB.mono hB.size)
          have hown1 := owns_below hown hKB
          have hrow1 := hrow.below hKB
          clear hK1
          go_wp2_with fail
          exact ⟨⟨k + 1, ns, xv, xc, by omega, by go_num, HE, by omega, rfl, hown1, hB1, hrow1⟩, by simp [intOf]; omega⟩
      · have HE : Hid (M1.sinceTo us ds most (k + 1) = ns) := (by rw [M1.since_no (by rw [hns.out]; intro q; exact hfull q.1), hns.out] : M1.sinceTo us ds most (k + 1) = ns)
        have hfb : decide ((ns.length : Int) < most) = false := decide_eq_false hfull
        go_wp2_with fail
        refine wp_region_held_drew (S := fun w' => Kp (wr.alloc (.cells #[.int .i64 (M1.up us k).dr, .int .i64 (M1.up us k).dn, .int .i64 (M1.up us k).sw, .int .i64 (M1.up us k).sc, .int .i64 (M1.up us k).sr, .int .i64 (M1.up us k).k, .int .i64 (M1.up us k).tr, .int .i64 (M1.up us k).id, .int .i64 (M1.up us k).pa, .string (M1.up us k).s, .int .i64 (M1.up us k).st, .int .i64 (M1.up us k).en, .int .i64 (M1.up us k).lv] 37)) w') (by kernel_rfl) ?_ (fun hHeld => ?_)
        · exact kp_zero _
        refine wpAnyH_take (i := 0) (v := ?_) rfl (by kernel_rfl) (by kernel_rfl) (by kernel_rfl) (fun _ _ _ h => h) (Or.inl ⟨by rfl, ?_⟩) hHeld ?_
        rotate_left
        · (intro w hSw; (try dsimp only at hSw); go_simp; try (with_reducible rfl))
        (try simp only [Act.put, List.getElem_toArray, List.getElem_cons_zero, List.getElem_cons_succ, List.setIfInBounds_toArray, List.set_cons_zero, List.set_cons_succ])
        refine wpAnyH_take (i := 1) (v := ?_) rfl (by kernel_rfl) (by kernel_rfl) (by kernel_rfl) (fun _ _ _ h => h) (Or.inl ⟨by rfl, ?_⟩) hHeld ?_
        rotate_left
        · (intro w hSw; (try dsimp only at hSw); go_simp; try (with_reducible rfl))
        (try simp only [Act.put, List.getElem_toArray, List.getElem_cons_zero, List.getElem_cons_succ, List.setIfInBounds_toArray, List.set_cons_zero, List.set_cons_succ])
        refine wpAnyH_take (i := 2) (v := ?_) rfl (by kernel_rfl) (by kernel_rfl) (by kernel_rfl) (fun _ _ _ h => h) (Or.inl ⟨by rfl, ?_⟩) hHeld ?_
        rotate_left
        · (intro w hSw; (try dsimp only at hSw); go_simp; try (with_reducible rfl))
        (try simp only [Act.put, List.getElem_toArray, List.getElem_cons_zero, List.getElem_cons_succ, List.setIfInBounds_toArray, List.set_cons_zero, List.set_cons_succ])
        refine wpAnyH_take (i := 3) (v := ?_) rfl (by kernel_rfl) (by kernel_rfl) (by kernel_rfl) (fun _ _ _ h => h) (Or.inl ⟨by rfl, ?_⟩) hHeld ?_
        rotate_left
        · (intro w hSw; (try dsimp only at hSw); go_simp; try (with_reducible rfl))
        (try simp only [Act.put, List.getElem_toArray, List.getElem_cons_zero, List.getElem_cons_succ, List.setIfInBounds_toArray, List.set_cons_zero, List.set_cons_succ])
        refine wpAnyH_take (i := 4) (v := ?_) rfl (by kernel_rfl) (by kernel_rfl) (by kernel_rfl) (fun _ _ _ h => h) (Or.inl ⟨by rfl, ?_⟩) hHeld ?_
        rotate_left
        · (intro w hSw; (try dsimp only at hSw); go_simp; try (with_reducible rfl))
        (try simp only [Act.put, List.getElem_toArray, List.getElem_cons_zero, List.getElem_cons_succ, List.setIfInBounds_toArray, List.set_cons_zero, List.set_cons_succ])
        refine wpAnyH_take (i := 5) (v := undef) rfl (by kernel_rfl) (by kernel_rfl) (by kernel_rfl) (fun _ _ _ h => h) (Or.inr ⟨by rfl, rfl⟩) hHeld ?_
        (try simp only [Act.put, List.getElem_toArray, List.getElem_cons_zero, List.getElem_cons_succ, List.setIfInBounds_toArray, List.set_cons_zero, List.set_cons_succ])
        refine wpAnyH_take (i := 6) (v := undef) rfl (by kernel_rfl) (by kernel_rfl) (by kernel_rfl) (fun _ _ _ h => h) (Or.inr ⟨by rfl, rfl⟩) hHeld ?_
        (try simp only [Act.put, List.getElem_toArray, List.getElem_cons_zero, List.getElem_cons_succ, List.setIfInBounds_toArray, List.set_cons_zero, List.set_cons_succ])
        refine wpAnyH_take (i := 7) (v := undef) rfl (by kernel_rfl) (by kernel_rfl) (by kernel_rfl) (fun _ _ _ h => h) (Or.inr ⟨by rfl, rfl⟩) hHeld ?_
        (try simp only [Act.put, List.getElem_toArray, List.getElem_cons_zero, List.getElem_cons_succ, List.setIfInBounds_toArray, List.set_cons_zero, List.set_cons_succ])
        refine wpAnyH_take (i := 8) (v := undef) rfl (by kernel_rfl) (by kernel_rfl) (by kernel_rfl) (fun _ _ _ h => h) (Or.inr ⟨by rfl, rfl⟩) hHeld ?_
        (try simp only [Act.put, List.getElem_toArray, List.getElem_cons_zero, List.getElem_cons_succ, List.setIfInBounds_toArray, List.set_cons_zero, List.set_cons_succ])
        refine wpAnyH_take (i := 9) (v := undef) rfl (by kernel_rfl) (by kernel_rfl) (by kernel_rfl) (fun _ _ _ h => h) (Or.inr ⟨by rfl, rfl⟩) hHeld ?_
        (try simp only [Act.put, List.getElem_toArray, List.getElem_cons_zero, List.getElem_cons_succ, List.setIfInBounds_toArray, List.set_cons_zero, List.set_cons_succ])
        refine wpAnyH_take (i := 10) (v := undef) rfl (by kernel_rfl) (by kernel_rfl) (by kernel_rfl) (fun _ _ _ h => h) (Or.inr ⟨by rfl, rfl⟩) hHeld ?_
        (try simp only [Act.put, List.getElem_toArray, List.getElem_cons_zero, List.getElem_cons_succ, List.setIfInBounds_toArray, List.set_cons_zero, List.set_cons_succ])
        refine wpAnyH_take (i := 11) (v := undef) rfl (by kernel_rfl) (by kernel_rfl) (by kernel_rfl) (fun _ _ _ h => h) (Or.inr ⟨by rfl, rfl⟩) hHeld ?_
        (try simp only [Act.put, List.getElem_toArray, List.getElem_cons_zero, List.getElem_cons_succ, List.setIfInBounds_toArray, List.set_cons_zero, List.set_cons_succ])
        refine wpAnyH_take (i := 12) (v := undef) rfl (by kernel_rfl) (by kernel_rfl) (by kernel_rfl) (fun _ _ _ h => h) (Or.inr ⟨by rfl, rfl⟩) hHeld ?_
        (try simp only [Act.put, List.getElem_toArray, List.getElem_cons_zero, List.getElem_cons_succ, List.setIfInBounds_toArray, List.set_cons_zero, List.set_cons_succ])
        refine wpAnyH_take (i := 13) (v := undef) rfl (by kernel_rfl) (by kernel_rfl) (by kernel_rfl) (fun _ _ _ h => h) (Or.inr ⟨by rfl, rfl⟩) hHeld ?_
        (try simp only [Act.put, List.getElem_toArray, List.getElem_cons_zero, List.getElem_cons_succ, List.setIfInBounds_toArray, List.set_cons_zero, List.set_cons_succ])
        refine wpAnyH_take (i := 14) (v := undef) rfl (by kernel_rfl) (by kernel_rfl) (by kernel_rfl) (fun _ _ _ h => h) (Or.inr ⟨by rfl, rfl⟩) hHeld ?_
        (try simp only [Act.put, List.getElem_toArray, List.getElem_cons_zero, List.getElem_cons_succ, List.setIfInBounds_toArray, List.set_cons_zero, List.set_cons_succ])
        refine wpAnyH_take (i := 15) (v := ?_) rfl (by kernel_rfl) (by kernel_rfl) (by kernel_rfl) (fun _ _ _ h => h) (Or.inl ⟨by rfl, ?_⟩) hHeld ?_
        rotate_left
        · (intro w hSw; (try dsimp only at hSw); go_simp; try (with_reducible rfl))
        (try simp only [Act.put, List.getElem_toArray, List.getElem_cons_zero, List.getElem_cons_succ, List.setIfInBounds_toArray, List.set_cons_zero, List.set_cons_succ])
        refine wpAnyH_done (by kernel_rfl) ?_ _
        have hK1 := hHeld
        clear hHeld
        generalize (wr.alloc (.cells #[.int .i64 (M1.up us k).dr, .int .i64 (M1.up us k).dn, .int .i64 (M1.up us k).sw, .int .i64 (M1.up us k).sc, .int .i64 (M1.up us k).sr, .int .i64 (M1.up us k).k, .int .i64 (M1.up us k).tr, .int .i64 (M1.up us k).id, .int .i64 (M1.up us k).pa, .string (M1.up us k).s, .int .i64 (M1.up us k).st, .int .i64 (M1.up us k).en, .int .i64 (M1.up us k).lv] 37)).drew = W1 at hK1 ⊢
        have hKB : Below wr.heap.size wr W1 := ((Below.refl _ _).alloc (Nat.le_refl _) _).trans (hK1.1.mono (by simp))
        have hB1 := hB.trans (hKB.mono hB.size)
        have hown1 := owns_below hown hKB
        have hrow1 := hrow.below hKB
        clear hK1
        go_wp2_with fail
        exact ⟨⟨k + 1, ns, xv, xc, by omega, by go_num, HE, by omega, rfl, hown1, hB1, hrow1⟩, by simp [intOf]; omega⟩
    · have HE : Hid (M1.sinceTo us ds most n = ns) := (by have e : k = n := by omega
                                                          rw [← e]; exact hns.out : M1.sinceTo us ds most n = ns)
      go_wp2_with fail
      refine bodyPost_ret (v := .tuple #[.slice xv ns.length xc, .bool true]) (by simp [results, Try.results20, go_sem]) rfl ⟨⟨_, rfl, by rw [HE.out]; exact owns_less hown (by omega)⟩, hB⟩

theorem since_impl (av bv : Option Addr) (n cn m cm : Nat) (us : List M1.Upd) (ds : List (Int × Int)) (most : Int) (w : World) (h1 : IsUpds w av n cn us) (h2 : IsVec w bv m cm ds) :
    Calls Try.prog 20 #[.slice av n cn, .slice bv m cm, .int .i64 most] w fun e w' => Told w w' e (M1.sinceL us ds most) (M1.sinceOk us ds most) ∧ Below w.heap.size w w' := by
  by_cases hv : M1.vecOk ds = true
  · by_cases hs : M1.setOk us = true
    · by_cases hm : M1.inB most 1 60 = true
      · have q := sinceOk_yes hs hv hm
        rw [q.1, q.2, h1.hlen]
        exact since_go _ _ _ _ _ _ _ _ _ _ h1 h2 hs hv hm
      · replace hm : M1.inB most 1 60 = false := by simpa using hm
        have q := sinceOk_most (us := us) (ds := ds) hm
        rw [q.1, q.2]
        clear q
        go_enter Try.func20, Try.ntmps20
        go_wp2_with fail
        refine (vectorFrom_yes _ _ _ _ _ h2 hv).mono ?_
        rintro e w1 ⟨rfl, hb1⟩
        have hA := hb1.alloc hb1.size (.cells #[.int .i64 (M1.lk ds 1), .int .i64 (M1.lk ds 2), .int .i64 (M1.lk ds 3), .int .i64 (M1.lk ds 4), .int .i64 (M1.lk ds 5)] 72)
        go_wp2_with fail
        refine (setOk_impl _ _ _ _ _ (h1.below hA)).mono ?_
        rw [hs]
        rintro e w2 ⟨rfl, hb2⟩
        have hB2 := hA.trans (hb2.mono hA.size)
        go_wp2_with fail
        refine (inRange_any _ _ _ _).mono ?_
        rw [hm]
        rintro e w3 ⟨rfl, hw3⟩
        subst hw3
        go_wp2_with fail
        refine bodyPost_ret (v := .tuple #[.slice none 0 0, .bool false]) (by simp [results, Try.results20, go_sem]) rfl ⟨⟨_, rfl, ownsU_nil _ _ _⟩, hB2⟩
    · replace hs : M1.setOk us = false := by simpa using hs
      have q := sinceOk_set (ds := ds) (most := most) hs
      rw [q.1, q.2]
      clear q
      go_enter Try.func20, Try.ntmps20
      go_wp2_with fail
      refine (vectorFrom_yes _ _ _ _ _ h2 hv).mono ?_
      rintro e w1 ⟨rfl, hb1⟩
      have hA := hb1.alloc hb1.size (.cells #[.int .i64 (M1.lk ds 1), .int .i64 (M1.lk ds 2), .int .i64 (M1.lk ds 3), .int .i64 (M1.lk ds 4), .int .i64 (M1.lk ds 5)] 72)
      go_wp2_with fail
      refine (setOk_impl _ _ _ _ _ (h1.below hA)).mono ?_
      rw [hs]
      rintro e w2 ⟨rfl, hb2⟩
      have hB2 := hA.trans (hb2.mono hA.size)
      go_wp2_with fail
      refine bodyPost_ret (v := .tuple #[.slice none 0 0, .bool false]) (by simp [results, Try.results20, go_sem]) rfl ⟨⟨_, rfl, ownsU_nil _ _ _⟩, hB2⟩
  · replace hv : M1.vecOk ds = false := by simpa using hv
    have q := sinceOk_vec (us := us) (most := most) hv
    rw [q.1, q.2]
    clear q
    go_enter Try.func20, Try.ntmps20
    go_wp2_with fail
    refine (vectorFrom_no _ _ _ _ _ h2 hv).mono ?_
    rintro e w1 ⟨rfl, hb1⟩
    have hA := hb1.alloc hb1.size (.cells #[.int .i64 0, .int .i64 0, .int .i64 0, .int .i64 0, .int .i64 0] 72)
    go_wp2_with fail
    refine bodyPost_ret (v := .tuple #[.slice none 0 0, .bool false]) (by simp [results, Try.results20, go_sem]) rfl ⟨⟨_, rfl, ownsU_nil _ _ _⟩, hA⟩
end Go.Proofs.Ytekmmkibpekkpaa
