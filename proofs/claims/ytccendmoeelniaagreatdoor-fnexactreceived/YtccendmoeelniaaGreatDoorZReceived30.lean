/-
  Texts of one proof, joined: VecU.
-/
import Derived.Test.YtccendmoeelniaaGreatDoorZReceived06
import Derived.Test.YtccendmoeelniaaGreatDoorZReceived27
import Derived.Test.YtccendmoeelniaaGreatDoorZReceived16
import Derived.Test.YtccendmoeelniaaGreatDoorZReceived29
namespace Go.Proofs.YtccendmoeelniaaGreatDoor
open Go.ChangeShapes Go.WideShapes Go.ChangeAt Go.RowKit
set_option linter.unusedSimpArgs false

set_option maxHeartbeats 4000000 in
set_option maxRecDepth 100000 in
theorem lastOf_any (av : Option Addr) (n cn : Nat) (us : List M1.Upd) (w : World) (h1 : IsUpds w av n cn us) (hr : Hid (∀ j, j < n → 1 ≤ (M1.up us j).dr ∧ (M1.up us j).dr ≤ 5)) :
    Calls Tryz.prog 57 #[.slice av n cn] w fun e w' => e = .returned (.agg #[.int .i64 (M1.lastN us n 1), .int .i64 (M1.lastN us n 2), .int .i64 (M1.lastN us n 3), .int .i64 (M1.lastN us n 4), .int .i64 (M1.lastN us n 5)]) ∧ Below w.heap.size w w' := by
  have hm1 := h1.hcap
  have hm2 := h1.hmost
  unfold maxLen at hm2
  go_enter Tryz.func57, Tryz.ntmps57
  go_wp2_with fail
  go_loopw [8] (fun i wr => ∃ k : Nat, k ≤ n ∧ i = .int .i64 k ∧ Below w.heap.size w wr ∧ RowAt wr w.heap.size 5 (fun _ => .int .i64 0) ∧ RowAt wr (w.heap.size + 1) 5 (fun o => .int .i64 (M1.lastN us k (o + 1)))) (fun i _ => n - (intOf i).toNat)
  case atStart =>
    refine ⟨0, Nat.zero_le _, rfl, ?_, ?_, ?_⟩
    · repeat (first | (with_reducible exact Below.refl _ _) | ((with_reducible refine Below.setCell ?_ ?_ _); rotate_left; (focus (first | omega | (simp; done) | (simp; omega)))) | ((with_reducible refine Below.alloc ?_ ?_ _); rotate_left; (focus (first | omega | (simp; done) | (simp; omega)))) | (with_reducible refine Below.drew ?_))
    · exact (RowAt.zero5 _ _ _ (fun _ => rfl)).alloc _
    · have := RowAt.zero5 (w.alloc (.cells #[.int .i64 0, .int .i64 0, .int .i64 0, .int .i64 0, .int .i64 0] 96)) 96 (fun o => .int .i64 (M1.lastN us 0 (o + 1))) (fun _ => rfl)
      simpa using this
  case round =>
    obtain ⟨k, hk, rfl, hB, hr0, hr1⟩ := hrel
    have hs0 := hr0.lt
    have hs1 := hr1.lt
    by_cases hlt : k < n
    · have g1 := h1.below hB
      rcases g1.hlies with h0 | ⟨b, off, rfl, hb, hc⟩
      · omega
      obtain ⟨c0, c1, c2, c3, c4, c5, c6, c7, c8, c9, c10, c11, c12⟩ := hc k hlt
      obtain ⟨q1, q2⟩ := hr.out k hlt
      have i0 : (0 : Int) ≤ (k : Int) := by omega
      have i1 : (k : Int) < (n : Int) := by omega
      clear hc g1
      have hr0' := hr0.alloc (.cells #[.int .i64 (M1.up us k).dr, .int .i64 (M1.up us k).dn, .int .i64 (M1.up us k).sw, .int .i64 (M1.up us k).sc, .int .i64 (M1.up us k).sr, .int .i64 (M1.up us k).k, .int .i64 (M1.up us k).tr, .int .i64 (M1.up us k).id, .int .i64 (M1.up us k).pa, .string (M1.up us k).s, .int .i64 (M1.up us k).st, .int .i64 (M1.up us k).en, .int .i64 (M1.up us k).lv] 38)
      have hr1' := hr1.alloc (.cells #[.int .i64 (M1.up us k).dr, .int .i64 (M1.up us k).dn, .int .i64 (M1.up us k).sw, .int .i64 (M1.up us k).sc, .int .i64 (M1.up us k).sr, .int .i64 (M1.up us k).k, .int .i64 (M1.up us k).tr, .int .i64 (M1.up us k).id, .int .i64 (M1.up us k).pa, .string (M1.up us k).s, .int .i64 (M1.up us k).st, .int .i64 (M1.up us k).en, .int .i64 (M1.up us k).lv] 38)
      have ht : ((M1.up us k).dr.toNat - 1) < 5 := by omega
      have d1 := hr1.cell (o := ((M1.up us k).dr.toNat - 1)) ht
      have d2 := hr1.free (o := ((M1.up us k).dr.toNat - 1)) ht
      have hne : ¬ w.heap.size + 1 = wr.heap.size := by omega
      go_wp2_with fail
      refine ⟨⟨k + 1, by omega, by go_num, ?_, ?_, ?_⟩, by simp [intOf]; omega⟩
      · repeat (first | (with_reducible exact Below.refl _ _) | ((with_reducible refine Below.setCell ?_ ?_ _); rotate_left; (focus (first | omega | (simp; done) | (simp; omega)))) | ((with_reducible refine Below.alloc ?_ ?_ _); rotate_left; (focus (first | omega | (simp; done) | (simp; omega)))) | (with_reducible refine Below.drew ?_) | ((with_reducible refine Below.trans ?_ (Below.mono hB ?_)); rotate_left; (focus (first | omega | (simp; done) | (simp; omega)))))
      · exact (hr0.far (by simp) _).alloc _
      · refine ((hr1.set ht _).alloc _).same fun o ho => ?_
        show (if o = ((M1.up us k).dr.toNat - 1) then _ else _) = _
        rw [M1.lastN_succ]
        by_cases e : o = ((M1.up us k).dr.toNat - 1)
        · rw [if_pos e, if_pos (by omega)]
        · rw [if_neg e, if_neg (by omega)]
    · have hkn : Hid (k = n) := (by omega : k = n)
      have z0 := hr0.cell (o := 0) (by omega)
      have z1 := hr0.cell (o := 1) (by omega)
      have z2 := hr0.cell (o := 2) (by omega)
      have z3 := hr0.cell (o := 3) (by omega)
      have z4 := hr0.cell (o := 4) (by omega)
      have y0 := hr0.free (o := 0) (by omega)
      have y1 := hr0.free (o := 1) (by omega)
      have y2 := hr0.free (o := 2) (by omega)
      have y3 := hr0.free (o := 3) (by omega)
      have y4 := hr0.free (o := 4) (by omega)
      have d0 := hr1.cell (o := 0) (by omega)
      have d1 := hr1.cell (o := 1) (by omega)
      have d2 := hr1.cell (o := 2) (by omega)
      have d3 := hr1.cell (o := 3) (by omega)
      have d4 := hr1.cell (o := 4) (by omega)
      go_wp2_with fail
      refine bodyPost_ret (v := .agg #[.int .i64 (M1.lastN us n 1), .int .i64 (M1.lastN us n 2), .int .i64 (M1.lastN us n 3), .int .i64 (M1.lastN us n 4), .int .i64 (M1.lastN us n 5)]) ?_ rfl ⟨rfl, ?_⟩
      · rw [← hkn.out]
        simp [results, Tryz.results57, go_sem, cell_set_same, *]
      · repeat (first | (with_reducible exact Below.refl _ _) | ((with_reducible refine Below.setCell ?_ ?_ _); rotate_left; (focus (first | omega | (simp; done) | (simp; omega)))) | ((with_reducible refine Below.alloc ?_ ?_ _); rotate_left; (focus (first | omega | (simp; done) | (simp; omega)))) | (with_reducible refine Below.drew ?_) | ((with_reducible refine Below.trans ?_ (Below.mono hB ?_)); rotate_left; (focus (first | omega | (simp; done) | (simp; omega)))))

theorem vectorOf_impl (av : Option Addr) (n cn : Nat) (us : List M1.Upd) (w : World) (h1 : IsUpds w av n cn us) :
    Calls Tryz.prog 18 #[.slice av n cn] w fun e w' => Joined w w' e (M1.vectorOf us) ∧ Below w.heap.size w w' := by
  have hl1 : Hid (us.length = n) := h1.hlen
  by_cases hs : M1.setOk us = true
  · have HQ : Hid (M1.vectorOf us = M1.dlTo (M1.lastN us n) 5) := (by unfold M1.vectorOf M1.vecU; rw [if_pos hs, hl1.out] : M1.vectorOf us = M1.dlTo (M1.lastN us n) 5)
    have hr : Hid (∀ j, j < n → 1 ≤ (M1.up us j).dr ∧ (M1.up us j).dr ≤ 5) := fun j hj => by
      have := M1.ok_rg (M1.setOk_all hs) (show j < us.length by have := hl1.out; omega)
      exact ⟨this.1, this.2.1⟩
    rw [HQ.out]
    go_enter Tryz.func18, Tryz.ntmps18
    go_wp2_with fail
    refine (setOk_impl _ _ _ _ _ h1).mono ?_
    rw [hs]
    rintro e w1 ⟨rfl, hb1⟩
    go_wp2_with fail
    refine (lastOf_any _ _ _ _ _ (h1.below hb1) hr).mono ?_
    rintro e w2 ⟨rfl, hb2⟩
    have hB2 := hb1.trans (hb2.mono hb1.size)
    go_wp2_with fail
    refine (dotsOf_any (M1.lastN us n) _).mono ?_
    rintro e w3 ⟨⟨v, rfl, hown⟩, hb3⟩
    go_wp2_with fail
    go_ret
    exact ⟨⟨v, rfl, owns_less hown hB2.size⟩, hB2.trans (hb3.mono hB2.size)⟩
  · replace hs : M1.setOk us = false := by simpa using hs
    have HQ : Hid (M1.vectorOf us = []) := (by unfold M1.vectorOf; rw [hs]; rfl : M1.vectorOf us = [])
    rw [HQ.out]
    go_enter Tryz.func18, Tryz.ntmps18
    go_wp2_with fail
    refine (setOk_impl _ _ _ _ _ h1).mono ?_
    rw [hs]
    rintro e w1 ⟨rfl, hb1⟩
    go_wp2_with fail
    go_ret
    exact ⟨⟨_, rfl, owns_nil _ _ _⟩, hb1⟩

set_option maxHeartbeats 8000000 in
set_option maxRecDepth 100000 in
theorem l3Vector_any (av : Option Addr) (n cn : Nat) (us : List M1.Upd) (w : World) (h1 : IsUpds w av n cn us) (hall : Hid (∀ j, j < us.length → M1.okAt us j = true)) (hn : n ≤ 1048576) :
    Calls Tryz.prog 59 #[.slice av n cn] w fun e w' => Joined w w' e (M1.vecU us) ∧ Below w.heap.size w w' := by
  have hl1 : Hid (us.length = n) := h1.hlen
  have hm1 := h1.hcap
  have hm2 := h1.hmost
  unfold maxLen at hm2
  obtain ⟨ti, hi1, hi2, hi3, hi4⟩ := infoDot
  have hi4' : Hid (ti.bytes = 16) := hi4
  have hi2' : Hid (ti.zero = some (.agg #[.int .i64 0, .int .i64 0])) := hi2
  have hi3' : Hid (ti.size = 2) := hi3
  have hi1' : Hid (Tryz.prog.info? 36 = some ti) := hi1
  clear hi1 hi2 hi3 hi4
  obtain ⟨f, hf⟩ : ∃ f, M1.lastN us us.length = f := ⟨_, rfl⟩
  have hff : Hid (M1.lastN us us.length = f) := hf
  clear hf
  go_enter Tryz.func59, Tryz.ntmps59
  go_wp2_with fail
  have hA : Below w.heap.size w (w.alloc (.cells #[] 36)) := (Below.refl _ _).alloc (Nat.le_refl _) _
  have own0 := owns_empty w 36
  go_loopw [3, 4] (fun v i wr => ∃ (k : Nat) (ds : List (Int × Int)), k ≤ n ∧ i = .int .i64 k ∧ Hid (M1.dlTo f (M1.cl us k) = ds) ∧ ds.length ≤ k ∧ wr.ownsRow w.heap.size 36 2 v ds.length (dcs ds) ∧ Below w.heap.size w wr) (fun _ i _ => n - (intOf i).toNat)
  case atStart => exact ⟨0, [], Nat.zero_le _, rfl, (rfl : M1.dlTo f (M1.cl us 0) = []), Nat.le_refl _, own0, hA⟩
  case round =>
    clear own0 hA
    obtain ⟨k, ds, hk, rfl, hds, hdl, hown, hB⟩ := hrel
    by_cases hlt : k < n
    · have g1 := h1.below hB
      rcases g1.hlies with h0 | ⟨b, off, rfl, hb, hc⟩
      · omega
      obtain ⟨c0, c1, c2, c3, c4, c5, c6, c7, c8, c9, c10, c11, c12⟩ := hc k hlt
      have i0 : (0 : Int) ≤ (k : Int) := by omega
      have i1 : (k : Int) < (n : Int) := by omega
      have i5 : IntKind.i64.wrap ((k : Int) + 1) = (k : Int) + 1 := IntWalk.i64_in _ (by omega)
      have hsz := hB.size
      by_cases hq : k + 1 = us.length ∨ ¬ (M1.up us (k + 1)).dr = (M1.up us k).dr
      · have HE : Hid (M1.dlTo f (M1.cl us (k + 1)) = ds ++ [((M1.up us k).dr, (M1.up us k).dn)]) := (by
          have := M1.cl_yes hall.out (show k < us.length by have := hl1.out; omega) hq
          rw [hff.out, hds.out] at this; exact this : M1.dlTo f (M1.cl us (k + 1)) = ds ++ [((M1.up us k).dr, (M1.up us k).dn)])
        by_cases hq1 : k + 1 = n
        · have e1 : (((k : Int) + 1) == (n : Int)) = true := by simp; omega
          clear hq hc g1
          go_wp2_with fail
          refine wp_region_held_drew (S := fun w' => Kp wr w') (by kernel_rfl) ?_ (fun hHeld => ?_)
          · exact kp_zero _
          refine wpAnyH_take (i := 0) (v := ?_) rfl (by kernel_rfl) (by kernel_rfl) (by kernel_rfl) (fun _ _ _ h => h) (Or.inl ⟨by rfl, ?_⟩) hHeld ?_
          rotate_left
          · (intro w hSw; (try dsimp only at hSw); go_simp; try (with_reducible rfl))
          (try simp only [Act.put, aZ, bZ, cZ, dZ, eZ, fZ])
          refine wpAnyH_take (i := 1) (v := ?_) rfl (by kernel_rfl) (by kernel_rfl) (by kernel_rfl) (fun _ _ _ h => h) (Or.inl ⟨by rfl, ?_⟩) hHeld ?_
          rotate_left
          · (intro w hSw; (try dsimp only at hSw); go_simp; try (with_reducible rfl))
          (try simp only [Act.put, aZ, bZ, cZ, dZ, eZ, fZ])
          refine wpAnyH_take (i := 2) (v := ?_) rfl (by kernel_rfl) (by kernel_rfl) (by kernel_rfl) (fun _ _ _ h => h) (Or.inl ⟨by rfl, ?_⟩) hHeld ?_
          rotate_left
          · (intro w hSw; (try dsimp only at hSw); go_simp; try (with_reducible rfl))
          (try simp only [Act.put, aZ, bZ, cZ, dZ, eZ, fZ])
          refine wpAnyH_take (i := 3) (v := ?_) rfl (by kernel_rfl) (by kernel_rfl) (by kernel_rfl) (fun _ _ _ h => h) (Or.inl ⟨by rfl, ?_⟩) hHeld ?_
          rotate_left
          · (intro w hSw; (try dsimp only at hSw); go_simp; try (with_reducible rfl))
          (try simp only [Act.put, aZ, bZ, cZ, dZ, eZ, fZ])
          refine wpAnyH_take (i := 4) (v := ?_) rfl (by kernel_rfl) (by kernel_rfl) (by kernel_rfl) (fun _ _ _ h => h) (Or.inl ⟨by rfl, ?_⟩) hHeld ?_
          rotate_left
          · (intro w hSw; (try dsimp only at hSw); go_simp; try (with_reducible rfl))
          (try simp only [Act.put, aZ, bZ, cZ, dZ, eZ, fZ])
          refine wpAnyH_take (i := 5) (v := ?_) rfl (by kernel_rfl) (by kernel_rfl) (by kernel_rfl) (fun _ _ _ h => h) (Or.inl ⟨by rfl, ?_⟩) hHeld ?_
          rotate_left
          · (intro w hSw; (try dsimp only at hSw); go_simp; try (with_reducible rfl))
          (try simp only [Act.put, aZ, bZ, cZ, dZ, eZ, fZ])
          refine wpAnyH_take (i := 6) (v := undef) rfl (by kernel_rfl) (by kernel_rfl) (by kernel_rfl) (fun _ _ _ h => h) (Or.inr ⟨by rfl, rfl⟩) hHeld ?_
          (try simp only [Act.put, aZ, bZ, cZ, dZ, eZ, fZ])
          refine wpAnyH_take (i := 7) (v := undef) rfl (by kernel_rfl) (by kernel_rfl) (by kernel_rfl) (fun _ _ _ h => h) (Or.inr ⟨by rfl, rfl⟩) hHeld ?_
          (try simp only [Act.put, aZ, bZ, cZ, dZ, eZ, fZ])
          refine wpAnyH_take (i := 8) (v := undef) rfl (by kernel_rfl) (by kernel_rfl) (by kernel_rfl) (fun _ _ _ h => h) (Or.inr ⟨by rfl, rfl⟩) hHeld ?_
          (try simp only [Act.put, aZ, bZ, cZ, dZ, eZ, fZ])
          refine wpAnyH_take (i := 9) (v := undef) rfl (by kernel_rfl) (by kernel_rfl) (by kernel_rfl) (fun _ _ _ h => h) (Or.inr ⟨by rfl, rfl⟩) hHeld ?_
          (try simp only [Act.put, aZ, bZ, cZ, dZ, eZ, fZ])
          refine wpAnyH_take (i := 10) (v := undef) rfl (by kernel_rfl) (by kernel_rfl) (by kernel_rfl) (fun _ _ _ h => h) (Or.inr ⟨by rfl, rfl⟩) hHeld ?_
          (try simp only [Act.put, aZ, bZ, cZ, dZ, eZ, fZ])
          refine wpAnyH_take (i := 11) (v := undef) rfl (by kernel_rfl) (by kernel_rfl) (by kernel_rfl) (fun _ _ _ h => h) (Or.inr ⟨by rfl, rfl⟩) hHeld ?_
          (try simp only [Act.put, aZ, bZ, cZ, dZ, eZ, fZ])
          refine wpAnyH_take (i := 12) (v := undef) rfl (by kernel_rfl) (by kernel_rfl) (by kernel_rfl) (fun _ _ _ h => h) (Or.inr ⟨by rfl, rfl⟩) hHeld ?_
          (try simp only [Act.put, aZ, bZ, cZ, dZ, eZ, fZ])
          refine wpAnyH_take (i := 13) (v := undef) rfl (by kernel_rfl) (by kernel_rfl) (by kernel_rfl) (fun _ _ _ h => h) (Or.inr ⟨by rfl, rfl⟩) hHeld ?_
          (try simp only [Act.put, aZ, bZ, cZ, dZ, eZ, fZ])
          refine wpAnyH_take (i := 14) (v := undef) rfl (by kernel_rfl) (by kernel_rfl) (by kernel_rfl) (fun _ _ _ h => h) (Or.inr ⟨by rfl, rfl⟩) hHeld ?_
          (try simp only [Act.put, aZ, bZ, cZ, dZ, eZ, fZ])
          refine wpAnyH_take (i := 15) (v := undef) rfl (by kernel_rfl) (by kernel_rfl) (by kernel_rfl) (fun _ _ _ h => h) (Or.inr ⟨by rfl, rfl⟩) hHeld ?_
          (try simp only [Act.put, aZ, bZ, cZ, dZ, eZ, fZ])
          refine wpAnyH_take (i := 16) (v := undef) rfl (by kernel_rfl) (by kernel_rfl) (by kernel_rfl) (fun _ _ _ h => h) (Or.inr ⟨by rfl, rfl⟩) hHeld ?_
          (try simp only [Act.put, aZ, bZ, cZ, dZ, eZ, fZ])
          refine wpAnyH_take (i := 17) (v := undef) rfl (by kernel_rfl) (by kernel_rfl) (by kernel_rfl) (fun _ _ _ h => h) (Or.inr ⟨by rfl, rfl⟩) hHeld ?_
          (try simp only [Act.put, aZ, bZ, cZ, dZ, eZ, fZ])
          refine wpAnyH_take (i := 18) (v := undef) rfl (by kernel_rfl) (by kernel_rfl) (by kernel_rfl) (fun _ _ _ h => h) (Or.inr ⟨by rfl, rfl⟩) hHeld ?_
          (try simp only [Act.put, aZ, bZ, cZ, dZ, eZ, fZ])
          refine wpAnyH_take (i := 19) (v := undef) rfl (by kernel_rfl) (by kernel_rfl) (by kernel_rfl) (fun _ _ _ h => h) (Or.inr ⟨by rfl, rfl⟩) hHeld ?_
          (try simp only [Act.put, aZ, bZ, cZ, dZ, eZ, fZ])
          refine wpAnyH_take (i := 20) (v := ?_) rfl (by kernel_rfl) (by kernel_rfl) (by kernel_rfl) (fun _ _ _ h => h) (Or.inl ⟨by rfl, ?_⟩) hHeld ?_
          rotate_left
          · (intro w hSw; (try dsimp only at hSw); go_simp; try (with_reducible rfl))
          (try simp only [Act.put, aZ, bZ, cZ, dZ, eZ, fZ])
          refine wpAnyH_done (by kernel_rfl) ?_ _
          have hK1 := hHeld
          clear hHeld
          generalize wr.drew = W1 at hK1 ⊢
          have hB1 := hB.trans (hK1.1.mono hB.size)
          have hown1 := owns_below hown hK1.1
          have hK2 := hK1.2
          have hsz1 := hB1.size
          clear hK1
          go_wp2_with (at_builtin; refine wpList_append_lies _ rfl _ _ _ rfl w.heap.size 36 ti _ 2 16 Tryz.underlying46 hi1'.out hi2'.out hi3'.out hi4'.out rfl (by omega) u3 ds.length (dcs ds) rfl (owns_below hown1 ((Below.refl _ _).alloc (Nat.le_refl _) _)) ⟨W1.heap.size, 0, none⟩ 1 1 [.int .i64 (M1.up us k).dr, .int .i64 (M1.up us k).dn] rfl rfl (news2 _ _ _ _) (one2 _ _) (by omega) (by unfold maxLen; omega) (by omega) (by simp; omega) _ rfl ?_; intro g4 cap4 w4 hown4 hgrow4 hat4 hlt4)
          have hB4 : Below w.heap.size w w4 := (hB1.alloc hB1.size _).grown hgrow4 (by simp; omega) (owns_base hown1)
          exact ⟨⟨k + 1, _, by omega, by go_num, HE, by simp; omega, owns_snoc hown4, hB4⟩, by simp [intOf]; omega⟩
        · have e1 : (((k : Int) + 1) == (n : Int)) = false := by simp; omega
          obtain ⟨p0, p1, p2, p3, p4, p5, p6, p7, p8, p9, p10, p11, p12⟩ := hc (k + 1) (by omega)
          have i2 : (0 : Int) ≤ (k : Int) + 1 := by omega
          have i3 : (k : Int) + 1 < (n : Int) := by omega
          have e2 : ((M1.up us (k + 1)).dr != (M1.up us k).dr) = true := by simp; exact hq.elim (fun h => absurd (h.trans hl1.out) hq1) id
          clear hq hc g1
          go_wp2_with fail
          refine wp_region_held_drew (S := fun w' => Kp wr w') (by kernel_rfl) ?_ (fun hHeld => ?_)
          · exact kp_zero _
          refine wpAnyH_take (i := 0) (v := ?_) rfl (by kernel_rfl) (by kernel_rfl) (by kernel_rfl) (fun _ _ _ h => h) (Or.inl ⟨by rfl, ?_⟩) hHeld ?_
          rotate_left
          · (intro w hSw; (try dsimp only at hSw); go_simp; try (with_reducible rfl))
          (try simp only [Act.put, aZ, bZ, cZ, dZ, eZ, fZ])
          refine wpAnyH_take (i := 1) (v := ?_) rfl (by kernel_rfl) (by kernel_rfl) (by kernel_rfl) (fun _ _ _ h => h) (Or.inl ⟨by rfl, ?_⟩) hHeld ?_
          rotate_left
          · (intro w hSw; (try dsimp only at hSw); go_simp; try (with_reducible rfl))
          (try simp only [Act.put, aZ, bZ, cZ, dZ, eZ, fZ])
          refine wpAnyH_take (i := 2) (v := ?_) rfl (by kernel_rfl) (by kernel_rfl) (by kernel_rfl) (fun _ _ _ h => h) (Or.inl ⟨by rfl, ?_⟩) hHeld ?_
          rotate_left
          · (intro w hSw; (try dsimp only at hSw); go_simp; try (with_reducible rfl))
          (try simp only [Act.put, aZ, bZ, cZ, dZ, eZ, fZ])
          refine wpAnyH_take (i := 3) (v := ?_) rfl (by kernel_rfl) (by kernel_rfl) (by kernel_rfl) (fun _ _ _ h => h) (Or.inl ⟨by rfl, ?_⟩) hHeld ?_
          rotate_left
          · (intro w hSw; (try dsimp only at hSw); go_simp; try (with_reducible rfl))
          (try simp only [Act.put, aZ, bZ, cZ, dZ, eZ, fZ])
          refine wpAnyH_take (i := 4) (v := ?_) rfl (by kernel_rfl) (by kernel_rfl) (by kernel_rfl) (fun _ _ _ h => h) (Or.inl ⟨by rfl, ?_⟩) hHeld ?_
          rotate_left
          · (intro w hSw; (try dsimp only at hSw); go_simp; try (with_reducible rfl))
          (try simp only [Act.put, aZ, bZ, cZ, dZ, eZ, fZ])
          refine wpAnyH_take (i := 5) (v := ?_) rfl (by kernel_rfl) (by kernel_rfl) (by kernel_rfl) (fun _ _ _ h => h) (Or.inl ⟨by rfl, ?_⟩) hHeld ?_
          rotate_left
          · (intro w hSw; (try dsimp only at hSw); go_simp; try (with_reducible rfl))
          (try simp only [Act.put, aZ, bZ, cZ, dZ, eZ, fZ])
          refine wpAnyH_take (i := 6) (v := ?_) rfl (by kernel_rfl) (by kernel_rfl) (by kernel_rfl) (fun _ _ _ h => h) (Or.inl ⟨by rfl, ?_⟩) hHeld ?_
          rotate_left
          · (intro w hSw; (try dsimp only at hSw); go_simp; try (with_reducible rfl))
          (try simp only [Act.put, aZ, bZ, cZ, dZ, eZ, fZ])
          refine wpAnyH_take (i := 7) (v := ?_) rfl (by kernel_rfl) (by kernel_rfl) (by kernel_rfl) (fun _ _ _ h => h) (Or.inl ⟨by rfl, ?_⟩) hHeld ?_
          rotate_left
          · (intro w hSw; (try dsimp only at hSw); go_simp; try (with_reducible rfl))
          (try simp only [Act.put, aZ, bZ, cZ, dZ, eZ, fZ])
          refine wpAnyH_take (i := 8) (v := ?_) rfl (by kernel_rfl) (by kernel_rfl) (by kernel_rfl) (fun _ _ _ h => h) (Or.inl ⟨by rfl, ?_⟩) hHeld ?_
          rotate_left
          · (intro w hSw; (try dsimp only at hSw); go_simp; try (with_reducible rfl))
          (try simp only [Act.put, aZ, bZ, cZ, dZ, eZ, fZ])
          refine wpAnyH_take (i := 9) (v := ?_) rfl (by kernel_rfl) (by kernel_rfl) (by kernel_rfl) (fun _ _ _ h => h) (Or.inl ⟨by rfl, ?_⟩) hHeld ?_
          rotate_left
          · (intro w hSw; (try dsimp only at hSw); go_simp; try (with_reducible rfl))
          (try simp only [Act.put, aZ, bZ, cZ, dZ, eZ, fZ])
          refine wpAnyH_take (i := 10) (v := ?_) rfl (by kernel_rfl) (by kernel_rfl) (by kernel_rfl) (fun _ _ _ h => h) (Or.inl ⟨by rfl, ?_⟩) hHeld ?_
          rotate_left
          · (intro w hSw; (try dsimp only at hSw); go_simp; try (with_reducible rfl))
          (try simp only [Act.put, aZ, bZ, cZ, dZ, eZ, fZ])
          refine wpAnyH_take (i := 11) (v := ?_) rfl (by kernel_rfl) (by kernel_rfl) (by kernel_rfl) (fun _ _ _ h => h) (Or.inl ⟨by rfl, ?_⟩) hHeld ?_
          rotate_left
          · (intro w hSw; (try dsimp only at hSw); go_simp; try (with_reducible rfl))
          (try simp only [Act.put, aZ, bZ, cZ, dZ, eZ, fZ])
          refine wpAnyH_take (i := 12) (v := ?_) rfl (by kernel_rfl) (by kernel_rfl) (by kernel_rfl) (fun _ _ _ h => h) (Or.inl ⟨by rfl, ?_⟩) hHeld ?_
          rotate_left
          · (intro w hSw; (try dsimp only at hSw); go_simp; try (with_reducible rfl))
          (try simp only [Act.put, aZ, bZ, cZ, dZ, eZ, fZ])
          refine wpAnyH_take (i := 13) (v := ?_) rfl (by kernel_rfl) (by kernel_rfl) (by kernel_rfl) (fun _ _ _ h => h) (Or.inl ⟨by rfl, ?_⟩) hHeld ?_
          rotate_left
          · (intro w hSw; (try dsimp only at hSw); go_simp; try (with_reducible rfl))
          (try simp only [Act.put, aZ, bZ, cZ, dZ, eZ, fZ])
          refine wpAnyH_take (i := 14) (v := ?_) rfl (by kernel_rfl) (by kernel_rfl) (by kernel_rfl) (fun _ _ _ h => h) (Or.inl ⟨by rfl, ?_⟩) hHeld ?_
          rotate_left
          · (intro w hSw; (try dsimp only at hSw); go_simp; try (with_reducible rfl))
          (try simp only [Act.put, aZ, bZ, cZ, dZ, eZ, fZ])
          refine wpAnyH_take (i := 15) (v := ?_) rfl (by kernel_rfl) (by kernel_rfl) (by kernel_rfl) (fun _ _ _ h => h) (Or.inl ⟨by rfl, ?_⟩) hHeld ?_
          rotate_left
          · (intro w hSw; (try dsimp only at hSw); go_simp; try (with_reducible rfl))
          (try simp only [Act.put, aZ, bZ, cZ, dZ, eZ, fZ])
          refine wpAnyH_take (i := 16) (v := ?_) rfl (by kernel_rfl) (by kernel_rfl) (by kernel_rfl) (fun _ _ _ h => h) (Or.inl ⟨by rfl, ?_⟩) hHeld ?_
          rotate_left
          · (intro w hSw; (try dsimp only at hSw); go_simp; try (with_reducible rfl))
          (try simp only [Act.put, aZ, bZ, cZ, dZ, eZ, fZ])
          refine wpAnyH_take (i := 17) (v := ?_) rfl (by kernel_rfl) (by kernel_rfl) (by kernel_rfl) (fun _ _ _ h => h) (Or.inl ⟨by rfl, ?_⟩) hHeld ?_
          rotate_left
          · (intro w hSw; (try dsimp only at hSw); go_simp; try (with_reducible rfl))
          (try simp only [Act.put, aZ, bZ, cZ, dZ, eZ, fZ])
          refine wpAnyH_take (i := 18) (v := ?_) rfl (by kernel_rfl) (by kernel_rfl) (by kernel_rfl) (fun _ _ _ h => h) (Or.inl ⟨by rfl, ?_⟩) hHeld ?_
          rotate_left
          · (intro w hSw; (try dsimp only at hSw); go_simp; try (with_reducible rfl))
          (try simp only [Act.put, aZ, bZ, cZ, dZ, eZ, fZ])
          refine wpAnyH_take (i := 19) (v := ?_) rfl (by kernel_rfl) (by kernel_rfl) (by kernel_rfl) (fun _ _ _ h => h) (Or.inl ⟨by rfl, ?_⟩) hHeld ?_
          rotate_left
          · (intro w hSw; (try dsimp only at hSw); go_simp; try (with_reducible rfl))
          (try simp only [Act.put, aZ, bZ, cZ, dZ, eZ, fZ])
          refine wpAnyH_take (i := 20) (v := ?_) rfl (by kernel_rfl) (by kernel_rfl) (by kernel_rfl) (fun _ _ _ h => h) (Or.inl ⟨by rfl, ?_⟩) hHeld ?_
          rotate_left
          · (intro w hSw; (try dsimp only at hSw); go_simp; try (with_reducible rfl))
          (try simp only [Act.put, aZ, bZ, cZ, dZ, eZ, fZ])
          refine wpAnyH_done (by kernel_rfl) ?_ _
          have hK1 := hHeld
          clear hHeld
          generalize wr.drew = W1 at hK1 ⊢
          have hB1 := hB.trans (hK1.1.mono hB.size)
          have hown1 := owns_below hown hK1.1
          have hK2 := hK1.2
          have hsz1 := hB1.size
          clear hK1
          go_wp2_with (at_builtin; refine wpList_append_lies _ rfl _ _ _ rfl w.heap.size 36 ti _ 2 16 Tryz.underlying46 hi1'.out hi2'.out hi3'.out hi4'.out rfl (by omega) u3 ds.length (dcs ds) rfl (owns_below hown1 ((Below.refl _ _).alloc (Nat.le_refl _) _)) ⟨W1.heap.size, 0, none⟩ 1 1 [.int .i64 (M1.up us k).dr, .int .i64 (M1.up us k).dn] rfl rfl (news2 _ _ _ _) (one2 _ _) (by omega) (by unfold maxLen; omega) (by omega) (by simp; omega) _ rfl ?_; intro g4 cap4 w4 hown4 hgrow4 hat4 hlt4)
          have hB4 : Below w.heap.size w w4 := (hB1.alloc hB1.size _).grown hgrow4 (by simp; omega) (owns_base hown1)
          exact ⟨⟨k + 1, _, by omega, by go_num, HE, by simp; omega, owns_snoc hown4, hB4⟩, by simp [intOf]; omega⟩
      · have HE : Hid (M1.dlTo f (M1.cl us (k + 1)) = ds) := (by
          have := M1.cl_no hall.out (show k < us.length by have := hl1.out; omega) hq
          rw [hff.out, hds.out] at this; exact this : M1.dlTo f (M1.cl us (k + 1)) = ds)
        have hq1 : ¬ k + 1 = n := fun e => hq (Or.inl (e.trans hl1.out.symm))
        have e1 : (((k : Int) + 1) == (n : Int)) = false := by simp; omega
        obtain ⟨p0, p1, p2, p3, p4, p5, p6, p7, p8, p9, p10, p11, p12⟩ := hc (k + 1) (by omega)
        have i2 : (0 : Int) ≤ (k : Int) + 1 := by omega
        have i3 : (k : Int) + 1 < (n : Int) := by omega
        have e2 : ((M1.up us (k + 1)).dr != (M1.up us k).dr) = false := by
          have : (M1.up us (k + 1)).dr = (M1.up us k).dr := Classical.not_not.1 (fun h => hq (Or.inr h))
          simp [this]
        clear hq hc g1
        go_wp2_with fail
        refine wp_region_held_drew (S := fun w' => Kp wr w') (by kernel_rfl) ?_ (fun hHeld => ?_)
        · exact kp_zero _
        refine wpAnyH_take (i := 0) (v := ?_) rfl (by kernel_rfl) (by kernel_rfl) (by kernel_rfl) (fun _ _ _ h => h) (Or.inl ⟨by rfl, ?_⟩) hHeld ?_
        rotate_left
        · (intro w hSw; (try dsimp only at hSw); go_simp; try (with_reducible rfl))
        (try simp only [Act.put, aZ, bZ, cZ, dZ, eZ, fZ])
        refine wpAnyH_take (i := 1) (v := ?_) rfl (by kernel_rfl) (by kernel_rfl) (by kernel_rfl) (fun _ _ _ h => h) (Or.inl ⟨by rfl, ?_⟩) hHeld ?_
        rotate_left
        · (intro w hSw; (try dsimp only at hSw); go_simp; try (with_reducible rfl))
        (try simp only [Act.put, aZ, bZ, cZ, dZ, eZ, fZ])
        refine wpAnyH_take (i := 2) (v := ?_) rfl (by kernel_rfl) (by kernel_rfl) (by kernel_rfl) (fun _ _ _ h => h) (Or.inl ⟨by rfl, ?_⟩) hHeld ?_
        rotate_left
        · (intro w hSw; (try dsimp only at hSw); go_simp; try (with_reducible rfl))
        (try simp only [Act.put, aZ, bZ, cZ, dZ, eZ, fZ])
        refine wpAnyH_take (i := 3) (v := ?_) rfl (by kernel_rfl) (by kernel_rfl) (by kernel_rfl) (fun _ _ _ h => h) (Or.inl ⟨by rfl, ?_⟩) hHeld ?_
        rotate_left
        · (intro w hSw; (try dsimp only at hSw); go_simp; try (with_reducible rfl))
        (try simp only [Act.put, aZ, bZ, cZ, dZ, eZ, fZ])
        refine wpAnyH_take (i := 4) (v := ?_) rfl (by kernel_rfl) (by kernel_rfl) (by kernel_rfl) (fun _ _ _ h => h) (Or.inl ⟨by rfl, ?_⟩) hHeld ?_
        rotate_left
        · (intro w hSw; (try dsimp only at hSw); go_simp; try (with_reducible rfl))
        (try simp only [Act.put, aZ, bZ, cZ, dZ, eZ, fZ])
        refine wpAnyH_take (i := 5) (v := ?_) rfl (by kernel_rfl) (by kernel_rfl) (by kernel_rfl) (fun _ _ _ h => h) (Or.inl ⟨by rfl, ?_⟩) hHeld ?_
        rotate_left
        · (intro w hSw; (try dsimp only at hSw); go_simp; try (with_reducible rfl))
        (try simp only [Act.put, aZ, bZ, cZ, dZ, eZ, fZ])
        refine wpAnyH_take (i := 6) (v := ?_) rfl (by kernel_rfl) (by kernel_rfl) (by kernel_rfl) (fun _ _ _ h => h) (Or.inl ⟨by rfl, ?_⟩) hHeld ?_
        rotate_left
        · (intro w hSw; (try dsimp only at hSw); go_simp; try (with_reducible rfl))
        (try simp only [Act.put, aZ, bZ, cZ, dZ, eZ, fZ])
        refine wpAnyH_take (i := 7) (v := ?_) rfl (by kernel_rfl) (by kernel_rfl) (by kernel_rfl) (fun _ _ _ h => h) (Or.inl ⟨by rfl, ?_⟩) hHeld ?_
        rotate_left
        · (intro w hSw; (try dsimp only at hSw); go_simp; try (with_reducible rfl))
        (try simp only [Act.put, aZ, bZ, cZ, dZ, eZ, fZ])
        refine wpAnyH_take (i := 8) (v := ?_) rfl (by kernel_rfl) (by kernel_rfl) (by kernel_rfl) (fun _ _ _ h => h) (Or.inl ⟨by rfl, ?_⟩) hHeld ?_
        rotate_left
        · (intro w hSw; (try dsimp only at hSw); go_simp; try (with_reducible rfl))
        (try simp only [Act.put, aZ, bZ, cZ, dZ, eZ, fZ])
        refine wpAnyH_take (i := 9) (v := ?_) rfl (by kernel_rfl) (by kernel_rfl) (by kernel_rfl) (fun _ _ _ h => h) (Or.inl ⟨by rfl, ?_⟩) hHeld ?_
        rotate_left
        · (intro w hSw; (try dsimp only at hSw); go_simp; try (with_reducible rfl))
        (try simp only [Act.put, aZ, bZ, cZ, dZ, eZ, fZ])
        refine wpAnyH_take (i := 10) (v := ?_) rfl (by kernel_rfl) (by kernel_rfl) (by kernel_rfl) (fun _ _ _ h => h) (Or.inl ⟨by rfl, ?_⟩) hHeld ?_
        rotate_left
        · (intro w hSw; (try dsimp only at hSw); go_simp; try (with_reducible rfl))
        (try simp only [Act.put, aZ, bZ, cZ, dZ, eZ, fZ])
        refine wpAnyH_take (i := 11) (v := ?_) rfl (by kernel_rfl) (by kernel_rfl) (by kernel_rfl) (fun _ _ _ h => h) (Or.inl ⟨by rfl, ?_⟩) hHeld ?_
        rotate_left
        · (intro w hSw; (try dsimp only at hSw); go_simp; try (with_reducible rfl))
        (try simp only [Act.put, aZ, bZ, cZ, dZ, eZ, fZ])
        refine wpAnyH_take (i := 12) (v := ?_) rfl (by kernel_rfl) (by kernel_rfl) (by kernel_rfl) (fun _ _ _ h => h) (Or.inl ⟨by rfl, ?_⟩) hHeld ?_
        rotate_left
        · (intro w hSw; (try dsimp only at hSw); go_simp; try (with_reducible rfl))
        (try simp only [Act.put, aZ, bZ, cZ, dZ, eZ, fZ])
        refine wpAnyH_take (i := 13) (v := ?_) rfl (by kernel_rfl) (by kernel_rfl) (by kernel_rfl) (fun _ _ _ h => h) (Or.inl ⟨by rfl, ?_⟩) hHeld ?_
        rotate_left
        · (intro w hSw; (try dsimp only at hSw); go_simp; try (with_reducible rfl))
        (try simp only [Act.put, aZ, bZ, cZ, dZ, eZ, fZ])
        refine wpAnyH_take (i := 14) (v := ?_) rfl (by kernel_rfl) (by kernel_rfl) (by kernel_rfl) (fun _ _ _ h => h) (Or.inl ⟨by rfl, ?_⟩) hHeld ?_
        rotate_left
        · (intro w hSw; (try dsimp only at hSw); go_simp; try (with_reducible rfl))
        (try simp only [Act.put, aZ, bZ, cZ, dZ, eZ, fZ])
        refine wpAnyH_take (i := 15) (v := ?_) rfl (by kernel_rfl) (by kernel_rfl) (by kernel_rfl) (fun _ _ _ h => h) (Or.inl ⟨by rfl, ?_⟩) hHeld ?_
        rotate_left
        · (intro w hSw; (try dsimp only at hSw); go_simp; try (with_reducible rfl))
        (try simp only [Act.put, aZ, bZ, cZ, dZ, eZ, fZ])
        refine wpAnyH_take (i := 16) (v := ?_) rfl (by kernel_rfl) (by kernel_rfl) (by kernel_rfl) (fun _ _ _ h => h) (Or.inl ⟨by rfl, ?_⟩) hHeld ?_
        rotate_left
        · (intro w hSw; (try dsimp only at hSw); go_simp; try (with_reducible rfl))
        (try simp only [Act.put, aZ, bZ, cZ, dZ, eZ, fZ])
        refine wpAnyH_take (i := 17) (v := ?_) rfl (by kernel_rfl) (by kernel_rfl) (by kernel_rfl) (fun _ _ _ h => h) (Or.inl ⟨by rfl, ?_⟩) hHeld ?_
        rotate_left
        · (intro w hSw; (try dsimp only at hSw); go_simp; try (with_reducible rfl))
        (try simp only [Act.put, aZ, bZ, cZ, dZ, eZ, fZ])
        refine wpAnyH_take (i := 18) (v := ?_) rfl (by kernel_rfl) (by kernel_rfl) (by kernel_rfl) (fun _ _ _ h => h) (Or.inl ⟨by rfl, ?_⟩) hHeld ?_
        rotate_left
        · (intro w hSw; (try dsimp only at hSw); go_simp; try (with_reducible rfl))
        (try simp only [Act.put, aZ, bZ, cZ, dZ, eZ, fZ])
        refine wpAnyH_take (i := 19) (v := ?_) rfl (by kernel_rfl) (by kernel_rfl) (by kernel_rfl) (fun _ _ _ h => h) (Or.inl ⟨by rfl, ?_⟩) hHeld ?_
        rotate_left
        · (intro w hSw; (try dsimp only at hSw); go_simp; try (with_reducible rfl))
        (try simp only [Act.put, aZ, bZ, cZ, dZ, eZ, fZ])
        refine wpAnyH_take (i := 20) (v := ?_) rfl (by kernel_rfl) (by kernel_rfl) (by kernel_rfl) (fun _ _ _ h => h) (Or.inl ⟨by rfl, ?_⟩) hHeld ?_
        rotate_left
        · (intro w hSw; (try dsimp only at hSw); go_simp; try (with_reducible rfl))
        (try simp only [Act.put, aZ, bZ, cZ, dZ, eZ, fZ])
        refine wpAnyH_done (by kernel_rfl) ?_ _
        have hK1 := hHeld
        clear hHeld
        have hB1 := hB.trans (hK1.1.mono hB.size)
        have hown1 := owns_below hown hK1.1
        clear hK1
        go_wp2_with fail
        exact ⟨⟨k + 1, ds, by omega, by go_num, HE, by omega, hown1, hB1⟩, by simp [intOf]; omega⟩
    · have HE : Hid (M1.vecU us = ds) := (by
        have hkn : k = us.length := by have := hl1.out; omega
        have h2 := M1.cl_end hall.out
        rw [hff.out, ← hkn, hds.out] at h2; exact h2.symm : M1.vecU us = ds)
      go_wp2_with fail
      go_ret
      exact ⟨⟨_, rfl, by rw [HE.out]; exact hown⟩, hB⟩

end Go.Proofs.YtccendmoeelniaaGreatDoor
