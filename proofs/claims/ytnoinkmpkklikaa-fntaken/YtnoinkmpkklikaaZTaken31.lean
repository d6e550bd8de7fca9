/-
  The contracts of the model's l3Since at whatever vector, and of the draw of a set and of updates.
-/
import Derived.Test.YtnoinkmpkklikaaZTaken30
import Derived.Test.YtnoinkmpkklikaaZTaken21
namespace Go.Proofs.Ytnoinkmpkklikaa
open Go.ChangeShapes Go.WideShapes Go.ChangeAt Go.RowKit
set_option linter.unusedSimpArgs false
set_option linter.unusedVariables false

/-- A list of one's own of at most n updates, with short texts. -/
def SomeL (w w' : World) (e : Ending) (n : Nat) : Prop := ∃ (v : Value) (ns : List M1.Upd), e = .returned v ∧ w'.ownsRow w.heap.size 51 13 v ns.length (ucL ns) ∧ ns.length ≤ n ∧ Short ns

set_option maxHeartbeats 8000000 in
set_option maxRecDepth 100000 in
theorem l3Since_gen (av bv : Option Addr) (n cn m cm : Nat) (us : List M1.Upd) (ds : List (Int × Int)) (most : Int) (w : World) (h1 : IsUpds w av n cn us) (h2 : IsVec w bv m cm ds) (hsh : Short us) (hn : n ≤ 1048576) (hm0 : 1 ≤ most) (hm60 : most ≤ 60) :
    Calls Try.prog 42 #[.slice av n cn, .slice bv m cm, .int .i64 most] w fun e w' => SomeL w w' e n ∧ Below w.heap.size w w' := by
  have hl1 : Hid (us.length = n) := h1.hlen
  have hm1 := h1.hcap
  have hm2 := h1.hmost
  unfold maxLen at hm2
  obtain ⟨ti, hi1, hi2, hi3, hi4⟩ := infoUpd
  have hi4' : Hid (ti.bytes = 112) := hi4
  have hi2' : Hid (ti.zero = some (.agg #[.int .i64 0, .int .i64 0, .int .i64 0, .int .i64 0, .int .i64 0, .int .i64 0, .int .i64 0, .int .i64 0, .int .i64 0, .string ByteArray.empty, .int .i64 0, .int .i64 0, .int .i64 0])) := hi2
  have hi3' : Hid (ti.size = 13) := hi3
  have hi1' : Hid (Try.prog.info? 51 = some ti) := hi1
  clear hi1 hi2 hi3 hi4
  go_enter Try.func42, Try.ntmps42
  go_wp2_with fail
  have hA : Below w.heap.size w (w.alloc (.cells #[] 51)) := (Below.refl _ _).alloc (Nat.le_refl _) _
  have own0 := ownsU_empty w 51
  go_loopw [7, 8] (fun v i wr => ∃ (k : Nat) (ns : List M1.Upd) (x : Option Addr) (c : Nat), k ≤ n ∧ i = .int .i64 k ∧ Short ns ∧ ns.length ≤ k ∧ v = .slice x ns.length c ∧ wr.ownsRow w.heap.size 51 13 (.slice x ns.length c) ns.length (ucL ns) ∧ Below w.heap.size w wr) (fun _ i _ => n - (intOf i).toNat)
  case atStart => exact ⟨0, [], _, _, Nat.zero_le _, rfl, (fun x hx => by cases hx), Nat.le_refl _, rfl, own0, hA⟩
  case round =>
    clear own0 hA
    obtain ⟨k, ns, xv, xc, hk, rfl, hns, hnl, rfl, hown, hB⟩ := hrel
    by_cases hlt : k < n
    · by_cases hfull : (ns.length : Int) < most
      · have g1 := h1.below hB
        have g2 := h2.below hB
        rcases g1.hlies with h0 | ⟨b, off, rfl, hb, hc⟩
        · omega
        obtain ⟨c0, c1, c2, c3, c4, c5, c6, c7, c8, c9, c10, c11, c12⟩ := hc k hlt
        have i0 : (0 : Int) ≤ (k : Int) := by omega
        have i1 : (k : Int) < (n : Int) := by omega
        have hsz := hB.size
        clear hc g1
        by_cases hq : M1.fm ds (M1.up us k).dr < (M1.up us k).dn
        · have HE : Short (ns ++ [M1.up us k]) := hns.snoc (hsh.at (i := k) (by rw [hl1.out]; exact hlt))
          go_wp2_with fail
          refine wp_region_held_drew (S := fun w' => Kp wr w') (by kernel_rfl) ?_ (fun hHeld => ?_)
          · exact kp_zero _
          refine wpAnyH_take (i := 0) (v := ?_) rfl (by kernel_rfl) (by kernel_rfl) (by kernel_rfl) (fun _ _ _ h => h) (Or.inl ⟨by rfl, ?_⟩) hHeld ?_
          rotate_left
          · (intro w hSw; (try dsimp only at hSw); go_simp; try (with_reducible rfl))
          (try simp only [Act.put, List.getElem_toArray, List.getElem_cons_zero, List.getElem_cons_succ, List.setIfInBounds_toArray, List.set_cons_zero, List.set_cons_succ])
          refine wpAnyH_take (i := 1) (v := ?_) rfl (by kernel_rfl) (by kernel_rfl) (by kernel_rfl) (fun _ _ _ h => h) (Or.inl ⟨by rfl, ?_⟩) hHeld ?_
          rotate_left
          · (intro w hSw; (try dsimp only at hSw); go_simp; try (with_reducible rfl))
          (try simp only [Act.put, List.getElem_toArray, List.getElem_cons_zero, List.getElem_cons_succ, List.setIfInBounds_toArray, List.set_cons_zero, List.set_cons_succ])
          refine wpAnyH_take (i := 2) (v := ?_) rfl (by kernel_rfl) (by kernel_rfl) (by kernel_rfl) (fun _ _ _ h => h) (Or.inl ⟨by rfl, ?_⟩) hHeld ?_
          rotate_left
          · (intro w hSw; (try dsimp only at hSw); go_simp; try (with_reducible rfl))
          (try simp only [Act.put, List.getElem_toArray, List.getElem_cons_zero, List.getElem_cons_succ, List.setIfInBounds_toArray, List.set_cons_zero, List.set_cons_succ])
          refine wpAnyH_take (i := 3) (v := ?_) rfl (by kernel_rfl) (by kernel_rfl) (by kernel_rfl) (fun _ _ _ h => h) (Or.inl ⟨by rfl, ?_⟩) hHeld ?_
          rotate_left
          · (intro w hSw; (try dsimp only at hSw); go_simp; try (with_reducible rfl))
          (try simp only [Act.put, List.getElem_toArray, List.getElem_cons_zero, List.getElem_cons_succ, List.setIfInBounds_toArray, List.set_cons_zero, List.set_cons_succ])
          refine wpAnyH_take (i := 4) (v := ?_) rfl (by kernel_rfl) (by kernel_rfl) (by kernel_rfl) (fun _ _ _ h => h) (Or.inl ⟨by rfl, ?_⟩) hHeld ?_
          rotate_left
          · (intro w hSw; (try dsimp only at hSw); go_simp; try (with_reducible rfl))
          (try simp only [Act.put, List.getElem_toArray, List.getElem_cons_zero, List.getElem_cons_succ, List.setIfInBounds_toArray, List.set_cons_zero, List.set_cons_succ])
          refine wpAnyH_take (i := 5) (v := ?_) rfl (by kernel_rfl) (by kernel_rfl) (by kernel_rfl) (fun _ _ _ h => h) (Or.inl ⟨by rfl, ?_⟩) hHeld ?_
          rotate_left
          · (intro w hSw; (try dsimp only at hSw); go_simp; try (with_reducible rfl))
          (try simp only [Act.put, List.getElem_toArray, List.getElem_cons_zero, List.getElem_cons_succ, List.setIfInBounds_toArray, List.set_cons_zero, List.set_cons_succ])
          refine wpAnyH_take (i := 6) (v := ?_) rfl (by kernel_rfl) (by kernel_rfl) (by kernel_rfl) (fun _ _ _ h => h) (Or.inl ⟨by rfl, ?_⟩) hHeld ?_
          rotate_left
          · (intro w hSw; (try dsimp only at hSw); go_simp; try (with_reducible rfl))
          (try simp only [Act.put, List.getElem_toArray, List.getElem_cons_zero, List.getElem_cons_succ, List.setIfInBounds_toArray, List.set_cons_zero, List.set_cons_succ])
          refine wpAnyH_take (i := 7) (v := ?_) rfl (by kernel_rfl) (by kernel_rfl) (by kernel_rfl) (fun _ _ _ h => h) (Or.inl ⟨by rfl, ?_⟩) hHeld ?_
          rotate_left
          · (intro w hSw; (try dsimp only at hSw); go_simp; try (with_reducible rfl))
          (try simp only [Act.put, List.getElem_toArray, List.getElem_cons_zero, List.getElem_cons_succ, List.setIfInBounds_toArray, List.set_cons_zero, List.set_cons_succ])
          refine wpAnyH_take (i := 8) (v := ?_) rfl (by kernel_rfl) (by kernel_rfl) (by kernel_rfl) (fun _ _ _ h => h) (Or.inl ⟨by rfl, ?_⟩) hHeld ?_
          rotate_left
          · (intro w hSw; (try dsimp only at hSw); go_simp; try (with_reducible rfl))
          (try simp only [Act.put, List.getElem_toArray, List.getElem_cons_zero, List.getElem_cons_succ, List.setIfInBounds_toArray, List.set_cons_zero, List.set_cons_succ])
          refine wpAnyH_take (i := 9) (v := ?_) rfl (by kernel_rfl) (by kernel_rfl) (by kernel_rfl) (fun _ _ _ h => h) (Or.inl ⟨by rfl, ?_⟩) hHeld ?_
          rotate_left
          · (intro w hSw; (try dsimp only at hSw); go_simp; try (with_reducible rfl))
          (try simp only [Act.put, List.getElem_toArray, List.getElem_cons_zero, List.getElem_cons_succ, List.setIfInBounds_toArray, List.set_cons_zero, List.set_cons_succ])
          refine wpAnyH_take (i := 10) (v := ?_) rfl (by kernel_rfl) (by kernel_rfl) (by kernel_rfl) (fun _ _ _ h => h) (Or.inl ⟨by rfl, ?_⟩) hHeld ?_
          rotate_left
          · (intro w hSw; (try dsimp only at hSw); go_simp; try (with_reducible rfl))
          (try simp only [Act.put, List.getElem_toArray, List.getElem_cons_zero, List.getElem_cons_succ, List.setIfInBounds_toArray, List.set_cons_zero, List.set_cons_succ])
          refine wpAnyH_take (i := 11) (v := ?_) rfl (by kernel_rfl) (by kernel_rfl) (by kernel_rfl) (fun _ _ _ h => h) (Or.inl ⟨by rfl, ?_⟩) hHeld ?_
          rotate_left
          · (intro w hSw; (try dsimp only at hSw); go_simp; try (with_reducible rfl))
          (try simp only [Act.put, List.getElem_toArray, List.getElem_cons_zero, List.getElem_cons_succ, List.setIfInBounds_toArray, List.set_cons_zero, List.set_cons_succ])
          refine wpAnyH_take (i := 12) (v := ?_) rfl (by kernel_rfl) (by kernel_rfl) (by kernel_rfl) (fun _ _ _ h => h) (Or.inl ⟨by rfl, ?_⟩) hHeld ?_
          rotate_left
          · (intro w hSw; (try dsimp only at hSw); go_simp; try (with_reducible rfl))
          (try simp only [Act.put, List.getElem_toArray, List.getElem_cons_zero, List.getElem_cons_succ, List.setIfInBounds_toArray, List.set_cons_zero, List.set_cons_succ])
          refine wpAnyH_ready (rs := [13]) (by kernel_rfl) (by simp) ?_
          refine AllReadyH.cons (o := _) rfl (fun K hK => ?_) AllReadyH.nil
          go_simp
          (refine (l1Of_gen _ _ _ _ _ _ (g2.below hHeld.1)).mono ?_; rintro e w' ⟨rfl, hbw⟩; subst hbw; go_wp2_with fail)
          refine hK.out _ _ ?_ (fun hHeld2 => ?_)
          · exact hHeld
          clear hK K hHeld
          have hHeld := hHeld2
          clear hHeld2
          (try simp only [Act.put, List.getElem_toArray, List.getElem_cons_zero, List.getElem_cons_succ, List.setIfInBounds_toArray, List.set_cons_zero, List.set_cons_succ])
          refine wpAnyH_take (i := 14) (v := ?_) rfl (by kernel_rfl) (by kernel_rfl) (by kernel_rfl) (fun _ _ _ h => h) (Or.inl ⟨by rfl, ?_⟩) hHeld ?_
          rotate_left
          · (intro w hSw; (try dsimp only at hSw); go_simp; try (with_reducible rfl))
          (try simp only [Act.put, List.getElem_toArray, List.getElem_cons_zero, List.getElem_cons_succ, List.setIfInBounds_toArray, List.set_cons_zero, List.set_cons_succ])
          refine wpAnyH_done (by kernel_rfl) ?_ _
          have hK1 := hHeld
          clear hHeld
          generalize wr.drew = W1 at hK1 ⊢
          have hB1 := hB.trans (hK1.1.mono hB.size)
          have hown1 := owns_below hown hK1.1
          have hK2 := hK1.2
          have hsz1 := hB1.size
          clear hK1
          go_wp2_with (at_builtin; refine wpList_append_lies _ rfl _ _ _ rfl w.heap.size 51 ti _ 13 112 Try.underlying24 hi1'.out hi2'.out hi3'.out hi4'.out rfl (by omega) (.slice xv ns.length xc) ns.length (ucL ns) rfl (owns_below hown1 ((Below.refl _ _).alloc (Nat.le_refl _) _)) ⟨W1.heap.size, 0, none⟩ 1 1 [.int .i64 (M1.up us k).dr, .int .i64 (M1.up us k).dn, .int .i64 (M1.up us k).sw, .int .i64 (M1.up us k).sc, .int .i64 (M1.up us k).sr, .int .i64 (M1.up us k).k, .int .i64 (M1.up us k).tr, .int .i64 (M1.up us k).id, .int .i64 (M1.up us k).pa, .string (M1.up us k).s, .int .i64 (M1.up us k).st, .int .i64 (M1.up us k).en, .int .i64 (M1.up us k).lv] rfl rfl (news13 _ _ _ _ _ _ _ _ _ _ _ _ _ _ _) (one13 _) (by omega) (by unfold maxLen; omega) (by omega) (by simp; omega) _ rfl ?_; intro g4 cap4 w4 hown4 hgrow4 hat4 hlt4)
          have hB4 : Below w.heap.size w w4 := (hB1.alloc hB1.size _).grown hgrow4 (by simp; omega) (owns_base hown1)
          have el : (ns ++ [M1.up us k]).length = ns.length + 1 := by simp
          exact ⟨⟨k + 1, ns ++ [M1.up us k], some ⟨g4, 0, none⟩, cap4, by omega, by go_num, HE, by omega, by rw [el], (by have q := ownsU_snoc (u := M1.up us k) hown4; rw [el] at q ⊢; exact q), hB4⟩, by simp [intOf]; omega⟩
        · have HE := hns
          go_wp2_with fail
          refine wp_region_held_drew (S := fun w' => Kp wr w') (by kernel_rfl) ?_ (fun hHeld => ?_)
          · exact kp_zero _
          refine wpAnyH_take (i := 0) (v := ?_) rfl (by kernel_rfl) (by kernel_rfl) (by kernel_rfl) (fun _ _ _ h => h) (Or.inl ⟨by rfl, ?_⟩) hHeld ?_
          rotate_left
          · (intro w hSw; (try dsimp only at hSw); go_simp; try (with_reducible rfl))
          (try simp only [Act.put, List.getElem_toArray, List.getElem_cons_zero, List.getElem_cons_succ, List.setIfInBounds_toArray, List.set_cons_zero, List.set_cons_succ])
          refine wpAnyH_take (i := 1) (v := ?_) rfl (by kernel_rfl) (by kernel_rfl) (by kernel_rfl) (fun _ _ _ h => h) (Or.inl ⟨by rfl, ?_⟩) hHeld ?_
          rotate_left
          · (intro w hSw; (try dsimp only at hSw); go_simp; try (with_reducible rfl))
          (try simp only [Act.put, List.getElem_toArray, List.getElem_cons_zero, List.getElem_cons_succ, List.setIfInBounds_toArray, List.set_cons_zero, List.set_cons_succ])
          refine wpAnyH_take (i := 2) (v := ?_) rfl (by kernel_rfl) (by kernel_rfl) (by kernel_rfl) (fun _ _ _ h => h) (Or.inl ⟨by rfl, ?_⟩) hHeld ?_
          rotate_left
          · (intro w hSw; (try dsimp only at hSw); go_simp; try (with_reducible rfl))
          (try simp only [Act.put, List.getElem_toArray, List.getElem_cons_zero, List.getElem_cons_succ, List.setIfInBounds_toArray, List.set_cons_zero, List.set_cons_succ])
          refine wpAnyH_take (i := 3) (v := ?_) rfl (by kernel_rfl) (by kernel_rfl) (by kernel_rfl) (fun _ _ _ h => h) (Or.inl ⟨by rfl, ?_⟩) hHeld ?_
          rotate_left
          · (intro w hSw; (try dsimp only at hSw); go_simp; try (with_reducible rfl))
          (try simp only [Act.put, List.getElem_toArray, List.getElem_cons_zero, List.getElem_cons_succ, List.setIfInBounds_toArray, List.set_cons_zero, List.set_cons_succ])
          refine wpAnyH_take (i := 4) (v := ?_) rfl (by kernel_rfl) (by kernel_rfl) (by kernel_rfl) (fun _ _ _ h => h) (Or.inl ⟨by rfl, ?_⟩) hHeld ?_
          rotate_left
          · (intro w hSw; (try dsimp only at hSw); go_simp; try (with_reducible rfl))
          (try simp only [Act.put, List.getElem_toArray, List.getElem_cons_zero, List.getElem_cons_succ, List.setIfInBounds_toArray, List.set_cons_zero, List.set_cons_succ])
          refine wpAnyH_take (i := 5) (v := ?_) rfl (by kernel_rfl) (by kernel_rfl) (by kernel_rfl) (fun _ _ _ h => h) (Or.inl ⟨by rfl, ?_⟩) hHeld ?_
          rotate_left
          · (intro w hSw; (try dsimp only at hSw); go_simp; try (with_reducible rfl))
          (try simp only [Act.put, List.getElem_toArray, List.getElem_cons_zero, List.getElem_cons_succ, List.setIfInBounds_toArray, List.set_cons_zero, List.set_cons_succ])
          refine wpAnyH_take (i := 6) (v := ?_) rfl (by kernel_rfl) (by kernel_rfl) (by kernel_rfl) (fun _ _ _ h => h) (Or.inl ⟨by rfl, ?_⟩) hHeld ?_
          rotate_left
          · (intro w hSw; (try dsimp only at hSw); go_simp; try (with_reducible rfl))
          (try simp only [Act.put, List.getElem_toArray, List.getElem_cons_zero, List.getElem_cons_succ, List.setIfInBounds_toArray, List.set_cons_zero, List.set_cons_succ])
          refine wpAnyH_take (i := 7) (v := ?_) rfl (by kernel_rfl) (by kernel_rfl) (by kernel_rfl) (fun _ _ _ h => h) (Or.inl ⟨by rfl, ?_⟩) hHeld ?_
          rotate_left
          · (intro w hSw; (try dsimp only at hSw); go_simp; try (with_reducible rfl))
          (try simp only [Act.put, List.getElem_toArray, List.getElem_cons_zero, List.getElem_cons_succ, List.setIfInBounds_toArray, List.set_cons_zero, List.set_cons_succ])
          refine wpAnyH_take (i := 8) (v := ?_) rfl (by kernel_rfl) (by kernel_rfl) (by kernel_rfl) (fun _ _ _ h => h) (Or.inl ⟨by rfl, ?_⟩) hHeld ?_
          rotate_left
          · (intro w hSw; (try dsimp only at hSw); go_simp; try (with_reducible rfl))
          (try simp only [Act.put, List.getElem_toArray, List.getElem_cons_zero, List.getElem_cons_succ, List.setIfInBounds_toArray, List.set_cons_zero, List.set_cons_succ])
          refine wpAnyH_take (i := 9) (v := ?_) rfl (by kernel_rfl) (by kernel_rfl) (by kernel_rfl) (fun _ _ _ h => h) (Or.inl ⟨by rfl, ?_⟩) hHeld ?_
          rotate_left
          · (intro w hSw; (try dsimp only at hSw); go_simp; try (with_reducible rfl))
          (try simp only [Act.put, List.getElem_toArray, List.getElem_cons_zero, List.getElem_cons_succ, List.setIfInBounds_toArray, List.set_cons_zero, List.set_cons_succ])
          refine wpAnyH_take (i := 10) (v := ?_) rfl (by kernel_rfl) (by kernel_rfl) (by kernel_rfl) (fun _ _ _ h => h) (Or.inl ⟨by rfl, ?_⟩) hHeld ?_
          rotate_left
          · (intro w hSw; (try dsimp only at hSw); go_simp; try (with_reducible rfl))
          (try simp only [Act.put, List.getElem_toArray, List.getElem_cons_zero, List.getElem_cons_succ, List.setIfInBounds_toArray, List.set_cons_zero, List.set_cons_succ])
          refine wpAnyH_take (i := 11) (v := ?_) rfl (by kernel_rfl) (by kernel_rfl) (by kernel_rfl) (fun _ _ _ h => h) (Or.inl ⟨by rfl, ?_⟩) hHeld ?_
          rotate_left
          · (intro w hSw; (try dsimp only at hSw); go_simp; try (with_reducible rfl))
          (try simp only [Act.put, List.getElem_toArray, List.getElem_cons_zero, List.getElem_cons_succ, List.setIfInBounds_toArray, List.set_cons_zero, List.set_cons_succ])
          refine wpAnyH_take (i := 12) (v := ?_) rfl (by kernel_rfl) (by kernel_rfl) (by kernel_rfl) (fun _ _ _ h => h) (Or.inl ⟨by rfl, ?_⟩) hHeld ?_
          rotate_left
          · (intro w hSw; (try dsimp only at hSw); go_simp; try (with_reducible rfl))
          (try simp only [Act.put, List.getElem_toArray, List.getElem_cons_zero, List.getElem_cons_succ, List.setIfInBounds_toArray, List.set_cons_zero, List.set_cons_succ])
          refine wpAnyH_ready (rs := [13]) (by kernel_rfl) (by simp) ?_
          refine AllReadyH.cons (o := _) rfl (fun K hK => ?_) AllReadyH.nil
          go_simp
          (refine (l1Of_gen _ _ _ _ _ _ (g2.below hHeld.1)).mono ?_; rintro e w' ⟨rfl, hbw⟩; subst hbw; go_wp2_with fail)
          refine hK.out _ _ ?_ (fun hHeld2 => ?_)
          · exact hHeld
          clear hK K hHeld
          have hHeld := hHeld2
          clear hHeld2
          (try simp only [Act.put, List.getElem_toArray, List.getElem_cons_zero, List.getElem_cons_succ, List.setIfInBounds_toArray, List.set_cons_zero, List.set_cons_succ])
          refine wpAnyH_take (i := 14) (v := ?_) rfl (by kernel_rfl) (by kernel_rfl) (by kernel_rfl) (fun _ _ _ h => h) (Or.inl ⟨by rfl, ?_⟩) hHeld ?_
          rotate_left
          · (intro w hSw; (try dsimp only at hSw); go_simp; try (with_reducible rfl))
          (try simp only [Act.put, List.getElem_toArray, List.getElem_cons_zero, List.getElem_cons_succ, List.setIfInBounds_toArray, List.set_cons_zero, List.set_cons_succ])
          refine wpAnyH_done (by kernel_rfl) ?_ _
          have hK1 := hHeld
          clear hHeld
          generalize wr.drew = W1 at hK1 ⊢
          have hB1 := hB.trans (hK1.1.mono hB.size)
          have hown1 := owns_below hown hK1.1
          clear hK1
          go_wp2_with fail
          exact ⟨⟨k + 1, ns, xv, xc, by omega, by go_num, HE, by omega, rfl, hown1, hB1⟩, by simp [intOf]; omega⟩
      · go_wp2_with fail
        go_ret
        exact ⟨⟨_, ns, rfl, hown, by omega, hns⟩, hB⟩
    · go_wp2_with fail
      go_ret
      exact ⟨⟨_, ns, rfl, hown, by omega, hns⟩, hB⟩

set_option maxHeartbeats 8000000 in
set_option maxRecDepth 100000 in
theorem drawTaken_any (av : Option Addr) (len cap : Nat) (w : World) (h : IsBytes w av len cap) :
    Calls Try.prog 18 #[.slice av len cap] w fun e w' => Two w w' e := by
  obtain ⟨ti, hi1, hi2, hi3, hi4⟩ := infoUpd
  have hi4' : Hid (ti.bytes = 112) := hi4
  have hi2' : Hid (ti.zero = some (.agg #[.int .i64 0, .int .i64 0, .int .i64 0, .int .i64 0, .int .i64 0, .int .i64 0, .int .i64 0, .int .i64 0, .int .i64 0, .string ByteArray.empty, .int .i64 0, .int .i64 0, .int .i64 0])) := hi2
  have hi3' : Hid (ti.size = 13) := hi3
  have hi1' : Hid (Try.prog.info? 51 = some ti) := hi1
  clear hi1 hi2 hi3 hi4
  go_enter Try.func18, Try.ntmps18
  go_wp2_with fail
  refine (l1Open_any _ _ _ _ h).mono ?_
  rintro e w1 ⟨rfl, hR1, hb1⟩
  have hgl := hR1.lt
  go_wp2_with fail
  refine (all_any _ _ _ _ _ _ hR1 (by omega) (by omega)).mono ?_
  rintro e w2 ⟨lv, lc, ls, rfl, hn, hsh, h3, mu2, hR2, hG2⟩
  have hs2 := hG2.size
  obtain ⟨n, hne⟩ : ∃ n, Hid (ls.length = n) := ⟨_, rfl⟩
  rw [hne.out] at mu2 hn ⊢
  have HTX : Hid (∀ i, i < n → (M1.up ls i).s.size ≤ maxLen) := (by rw [← hne.out]; exact hsh.max : ∀ i, i < n → (M1.up ls i).s.size ≤ maxLen)
  go_wp2_with fail
  refine (some_any _ _ _ _ _ _ _ ls _ hR2 (mu2.upds hne.out HTX.out) hsh h3 (by omega) (mu_ne mu2 (by omega))).mono ?_
  rintro e w3 ⟨bv, c, us, rfl, hul, hush, _, mus3, hR3, hG3⟩
  have mu3 := mu2.gr hG3 (by omega)
  have hG3' := gr_trans hG2 hG3
  have hs3 := hG3.size
  clear mu2 hR2 hG2 hG3
  go_wp2_with fail
  have own0 := ownsU_empty w3 51
  obtain ⟨W0, hW0⟩ : ∃ W, W = (w3.alloc (.cells #[] 51)) := ⟨_, rfl⟩
  rw [← hW0] at own0
  have hb0 : Below w3.heap.size w3 W0 := by rw [hW0]; exact (Below.refl _ _).alloc (Nat.le_refl _) _
  have hR0 := hR3.below hb0
  have hz0 : W0.heap.size = w3.heap.size + 1 := by rw [hW0]; simp
  rw [← hW0]
  clear hW0
  refine (below_any _ _ _ _ _ _ hR0 (by omega) (by omega)).mono ?_
  rintro e w4 ⟨x, rfl, hx0, hx1, hR4, hG4⟩
  have hG4a := gr_trans (gr_below (g := w.heap.size) hb0) hG4
  have own4 := owns_gr own0 hG4 (by omega)
  have hs4 := hG4a.size
  clear own0 hR0 hG4
  obtain ⟨X, hX⟩ : ∃ X : Nat, x = (X : Int) := ⟨x.toNat, by omega⟩
  subst hX
  go_wp2_with fail
  go_loopw [7, 8] (fun v i wr => ∃ (K : Nat) (gb cc : Nat) (ns : List M1.Upd), i = .int .i64 K ∧ ns.length + K ≤ 9 ∧ v = .slice (some ⟨gb, 0, none⟩) ns.length cc ∧ wr.ownsRow w3.heap.size 51 13 (.slice (some ⟨gb, 0, none⟩) ns.length cc) ns.length (ucL ns) ∧ Short ns ∧ Rdr wr w.heap.size av len cap ∧ Gr w.heap.size w3 wr) (fun _ i _ => (intOf i).toNat)
  case atStart => exact ⟨X, _, _, [], rfl, by simp; omega, rfl, own4, fun x hx => absurd hx (by simp), hR4, hG4a⟩
  case round =>
    clear own4 hR4 hG4a
    obtain ⟨K, gb, cc, ns, rfl, hnK, rfl, hown, hsn, hR, hG⟩ := hrel
    have hsz := hG.size
    by_cases hK : 0 < K
    · by_cases hn0 : 0 < n
      · have k0 : (0 : Int) < (K : Int) := by omega
        have k1 : (0 : Int) < (n : Int) := by omega
        go_wp2_with fail
        refine (below_any _ _ _ _ _ _ hR (by omega) (by omega)).mono ?_
        rintro e w6 ⟨y, rfl, hy0, hy1, hR6, hG6⟩
        have hG6' := gr_trans hG hG6
        have hown6 := owns_gr hown hG6 (by omega)
        have g1 := (mu3.gr hG6' (by omega)).upds hne.out HTX.out
        have hs6 := hG6'.size
        obtain ⟨Y, hY⟩ : ∃ Y : Nat, y = (Y : Int) := ⟨y.toNat, by omega⟩
        subst hY
        have hYn : Y < n := by omega
        have hsY := hsh.at (i := Y) (by rw [hne.out]; exact hYn)
        clear hR hG hown hG6
        rcases g1.hlies with h0 | ⟨b, off, rfl, hb, hc⟩
        · omega
        obtain ⟨c0, c1, c2, c3, c4, c5, c6, c7, c8, c9, c10, c11, c12⟩ := hc Y hYn
        clear hc g1
        go_wp2_with (at_builtin; refine wpList_append_lies _ rfl _ _ _ rfl w3.heap.size 51 ti _ 13 112 Try.underlying24 hi1'.out hi2'.out hi3'.out hi4'.out rfl (by omega) (.slice (some ⟨gb, 0, none⟩) ns.length cc) ns.length (ucL ns) rfl (owns_below hown6 ((Below.refl _ _).alloc (Nat.le_refl _) _)) ⟨w6.heap.size, 0, none⟩ 1 1 [.int .i64 (M1.up ls Y).dr, .int .i64 (M1.up ls Y).dn, .int .i64 (M1.up ls Y).sw, .int .i64 (M1.up ls Y).sc, .int .i64 (M1.up ls Y).sr, .int .i64 (M1.up ls Y).k, .int .i64 (M1.up ls Y).tr, .int .i64 (M1.up ls Y).id, .int .i64 (M1.up ls Y).pa, .string (M1.up ls Y).s, .int .i64 (M1.up ls Y).st, .int .i64 (M1.up ls Y).en, .int .i64 (M1.up ls Y).lv] rfl rfl (news13 _ _ _ _ _ _ _ _ _ _ _ _ _ _ _) (one13 _) (by omega) (by unfold maxLen; omega) (by omega) (by simp; omega) _ rfl ?_; intro g4 cap4 w7 hown7 hgrow7 hat7 hlt7)
        have hgr : ∀ q, (Value.slice (some ⟨gb, 0, none⟩) ns.length cc).ownBlock = some q → w3.heap.size ≤ q := owns_base hown6
        have hG7 := gr_grown (gr_alloc hG6' (.cells (#[.int .i64 (M1.up ls Y).dr, .int .i64 (M1.up ls Y).dn, .int .i64 (M1.up ls Y).sw, .int .i64 (M1.up ls Y).sc, .int .i64 (M1.up ls Y).sr, .int .i64 (M1.up ls Y).k, .int .i64 (M1.up ls Y).tr, .int .i64 (M1.up ls Y).id, .int .i64 (M1.up ls Y).pa, .string (M1.up ls Y).s, .int .i64 (M1.up ls Y).st, .int .i64 (M1.up ls Y).en, .int .i64 (M1.up ls Y).lv]) 51)) hgrow7 hgr
        have hR7 := Rdr.grown hR3 (hR6.below ((Below.refl _ _).alloc (Nat.le_refl _) (.cells (#[.int .i64 (M1.up ls Y).dr, .int .i64 (M1.up ls Y).dn, .int .i64 (M1.up ls Y).sw, .int .i64 (M1.up ls Y).sc, .int .i64 (M1.up ls Y).sr, .int .i64 (M1.up ls Y).k, .int .i64 (M1.up ls Y).tr, .int .i64 (M1.up ls Y).id, .int .i64 (M1.up ls Y).pa, .string (M1.up ls Y).s, .int .i64 (M1.up ls Y).st, .int .i64 (M1.up ls Y).en, .int .i64 (M1.up ls Y).lv]) 51))) (by simp; omega) hgrow7 hgr
        have el : (ns ++ [M1.up ls Y]).length = ns.length + 1 := by simp
        have eK : (K : Int) - 1 = ((K - 1 : Nat) : Int) := by omega
        go_wp2_with fail
        exact ⟨⟨K - 1, g4, cap4, ns ++ [M1.up ls Y], by rw [eK], by rw [el]; omega, by rw [el], (by have q := ownsU_snoc (u := M1.up ls Y) hown7; rw [el] at q ⊢; exact q), hsn.snoc hsY, hR7, hG7⟩, by simp [intOf]; omega⟩
      · have k0 : (0 : Int) < (K : Int) := by omega
        have k1 : ¬ (0 : Int) < (n : Int) := by omega
        go_wp2_with fail
        refine (once_any _ _ _ _ _ _ hR (by omega) (by omega)).mono ?_
        rintro e w8 ⟨on, rfl, hR8, hG8⟩
        have hG8' := gr_trans hG hG8
        have hown8 := owns_gr hown hG8 (by omega)
        have hs8 := hG8'.size
        have us8 := (mus3.gr hG8' (by omega)).upds rfl hush.max
        have B8 := hb1.trans (gr_to (gr_trans hG3' hG8') hb1.size (by omega))
        clear hR hG hown hG8
        cases on with
        | false =>
          obtain ⟨aN, cN, eN, N8⟩ := MU.of_owns hown8
          injection eN with e1 e2 e3
          (try clear e2)
          subst e1
          subst e3
          go_wp2_with fail
          refine bodyPost_ret (v := .tuple #[.slice bv us.length c, .slice (some ⟨gb, 0, none⟩) ns.length cc]) (by simp [results, Try.results18, go_sem]) rfl ?_
          exact ⟨bv, c, us, _, _, ns, rfl, by omega, by omega, hush, hsn, us8, N8.upds rfl hsn.max, B8⟩
        | true =>
          clear hown8
          go_wp2_with fail
          refine (l3Vector_gen _ _ _ _ _ us8 (by omega)).mono ?_
          rintro e w9 ⟨⟨v, rfl, own9⟩, hb9⟩
          obtain ⟨aV, cV, rfl, V9⟩ := MV.of_owns own9
          have hR9 := hR8.below hb9
          have hG9' := gr_trans hG8' (gr_below hb9)
          have us9 := us8.below hb9
          have B9 := B8.trans (hb9.mono B8.size)
          have hs9 := hb9.size
          clear own9 hR8 hG8' us8 B8 hb9
          go_wp2_with fail
          refine (below_any _ _ _ _ _ _ hR9 (by omega) (by omega)).mono ?_
          rintro e w10 ⟨y, rfl, hy0, hy1, hR10, hG10⟩
          have hG10' := gr_trans hG9' hG10
          have V10 := V9.gr hG10 (by omega)
          have ls10 := (mu3.gr hG10' (by omega)).upds hne.out HTX.out
          have us10 := (mus3.gr hG10' (by omega)).upds rfl hush.max
          have B10 := hb1.trans (gr_to (gr_trans hG3' hG10') hb1.size (by omega))
          clear V9 us9 B9 hG10 hR10 hR9 hG9'
          go_wp2_with fail
          refine (l3Since_gen _ _ _ _ _ _ ls _ _ _ ls10 (V10.vec rfl) hsh (by omega) (by omega) (by omega)).mono ?_
          rintro e w11 ⟨⟨v, ns2, rfl, own11, hl11, hsh11⟩, hb11⟩
          obtain ⟨aN, cN, rfl, N11⟩ := MU.of_owns own11
          have us11 := us10.below hb11
          have B11 := B10.trans (hb11.mono B10.size)
          go_wp2_with fail
          refine bodyPost_ret (v := .tuple #[.slice bv us.length c, .slice aN ns2.length cN]) (by simp [results, Try.results18, go_sem]) rfl ?_
          exact ⟨bv, c, us, _, _, ns2, rfl, by omega, by omega, hush, hsh11, us11, N11.upds rfl hsh11.max, B11⟩
    · have k0 : ¬ (0 : Int) < (K : Int) := by omega
      go_wp2_with fail
      refine (once_any _ _ _ _ _ _ hR (by omega) (by omega)).mono ?_
      rintro e w8 ⟨on, rfl, hR8, hG8⟩
      have hG8' := gr_trans hG hG8
      have hown8 := owns_gr hown hG8 (by omega)
      have hs8 := hG8'.size
      have us8 := (mus3.gr hG8' (by omega)).upds rfl hush.max
      have B8 := hb1.trans (gr_to (gr_trans hG3' hG8') hb1.size (by omega))
      clear hR hG hown hG8
      cases on with
      | false =>
        obtain ⟨aN, cN, eN, N8⟩ := MU.of_owns hown8
        injection eN with e1 e2 e3
        (try clear e2)
        subst e1
        subst e3
        go_wp2_with fail
        refine bodyPost_ret (v := .tuple #[.slice bv us.length c, .slice (some ⟨gb, 0, none⟩) ns.length cc]) (by simp [results, Try.results18, go_sem]) rfl ?_
        exact ⟨bv, c, us, _, _, ns, rfl, by omega, by omega, hush, hsn, us8, N8.upds rfl hsn.max, B8⟩
      | true =>
        clear hown8
        go_wp2_with fail
        refine (l3Vector_gen _ _ _ _ _ us8 (by omega)).mono ?_
        rintro e w9 ⟨⟨v, rfl, own9⟩, hb9⟩
        obtain ⟨aV, cV, rfl, V9⟩ := MV.of_owns own9
        have hR9 := hR8.below hb9
        have hG9' := gr_trans hG8' (gr_below hb9)
        have us9 := us8.below hb9
        have B9 := B8.trans (hb9.mono B8.size)
        have hs9 := hb9.size
        clear own9 hR8 hG8' us8 B8 hb9
        go_wp2_with fail
        refine (below_any _ _ _ _ _ _ hR9 (by omega) (by omega)).mono ?_
        rintro e w10 ⟨y, rfl, hy0, hy1, hR10, hG10⟩
        have hG10' := gr_trans hG9' hG10
        have V10 := V9.gr hG10 (by omega)
        have ls10 := (mu3.gr hG10' (by omega)).upds hne.out HTX.out
        have us10 := (mus3.gr hG10' (by omega)).upds rfl hush.max
        have B10 := hb1.trans (gr_to (gr_trans hG3' hG10') hb1.size (by omega))
        clear V9 us9 B9 hG10 hR10 hR9 hG9'
        go_wp2_with fail
        refine (l3Since_gen _ _ _ _ _ _ ls _ _ _ ls10 (V10.vec rfl) hsh (by omega) (by omega) (by omega)).mono ?_
        rintro e w11 ⟨⟨v, ns2, rfl, own11, hl11, hsh11⟩, hb11⟩
        obtain ⟨aN, cN, rfl, N11⟩ := MU.of_owns own11
        have us11 := us10.below hb11
        have B11 := B10.trans (hb11.mono B10.size)
        go_wp2_with fail
        refine bodyPost_ret (v := .tuple #[.slice bv us.length c, .slice aN ns2.length cN]) (by simp [results, Try.results18, go_sem]) rfl ?_
        exact ⟨bv, c, us, _, _, ns2, rfl, by omega, by omega, hush, hsh11, us11, N11.upds rfl hsh11.max, B11⟩
end Go.Proofs.Ytnoinkmpkklikaa
