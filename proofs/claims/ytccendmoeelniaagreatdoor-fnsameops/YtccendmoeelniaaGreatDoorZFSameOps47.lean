/-
  Texts of one proof, joined: DrawK.
-/
import Derived.Test.YtccendmoeelniaaGreatDoorZFSameOps46
import Derived.Test.YtccendmoeelniaaGreatDoorZFSameOps37
namespace Go.Proofs.YtccendmoeelniaaGreatDoor
open Go.ChangeShapes Go.WideShapes Go.ChangeAt Go.RowKit
set_option linter.unusedSimpArgs false
set_option linter.unusedVariables false
def SomeL (w w' : World) (e : Ending) (n : Nat) : Prop := ∃ (v : Value) (ns : List M1.Upd), e = .returned v ∧ w'.ownsRow w.heap.size 38 13 v ns.length (ucL ns) ∧ ns.length ≤ n ∧ Short ns

set_option maxHeartbeats 8000000 in
set_option maxRecDepth 100000 in
theorem l3Since_gen (av bv : Option Addr) (n cn m cm : Nat) (us : List M1.Upd) (ds : List (Int × Int)) (most : Int) (w : World) (h1 : IsUpds w av n cn us) (h2 : IsVec w bv m cm ds) (hsh : Short us) (hn : n ≤ 1048576) (hm0 : 1 ≤ most) (hm60 : most ≤ 60) :
  Calls Tryz.prog 58 #[.slice av n cn, .slice bv m cm, .int .i64 most] w fun e w' => SomeL w w' e n ∧ Below w.heap.size w w' := by
 have hl1 : Hid (us.length = n) := h1.hlen
 have hm1 := h1.hcap
 have hm2 := h1.hmost
 unfold maxLen at hm2
 obtain ⟨ti, hi1, hi2, hi3, hi4⟩ := infoUpd
 have hi4' : Hid (ti.bytes = 112) := hi4
 have hi2' : Hid (ti.zero = some (.agg #[.int .i64 0, .int .i64 0, .int .i64 0, .int .i64 0, .int .i64 0, .int .i64 0, .int .i64 0, .int .i64 0, .int .i64 0, .string ByteArray.empty, .int .i64 0, .int .i64 0, .int .i64 0])) := hi2
 have hi3' : Hid (ti.size = 13) := hi3
 have hi1' : Hid (Tryz.prog.info? 38 = some ti) := hi1
 clear hi1 hi2 hi3 hi4
 go_enter Tryz.func58, Tryz.ntmps58
 go_wp2_with fail
 have hA : Below w.heap.size w (w.alloc (.cells #[] 38)) := (Below.refl _ _).alloc (Nat.le_refl _) _
 have own0 := ownsU_empty w 38
 go_loopw [7, 8] (fun v i wr => ∃ (k : Nat) (ns : List M1.Upd) (x : Option Addr) (c : Nat), k ≤ n ∧ i = .int .i64 k ∧ Short ns ∧ ns.length ≤ k ∧ v = .slice x ns.length c ∧ wr.ownsRow w.heap.size 38 13 (.slice x ns.length c) ns.length (ucL ns) ∧ Below w.heap.size w wr) (fun _ i _ => n - (intOf i).toNat)
 case atStart => exact ⟨0, [], _, _, Nat.zero_le _, rfl, (fun x hx => by cases hx), Nat.le_refl _, rfl, own0, hA⟩
 case round =>
  clear own0 hA
  obtain ⟨k, ns, xv, xc, hk, rfl, hns, hnl, rfl, hown, hB⟩ := hrel
  by_cases hlt : k < n
  ·by_cases hfull : (ns.length : Int) < most
   ·have g1 := h1.below hB
    have g2 := h2.below hB
    rcases g1.hlies with h0 | ⟨b, off, rfl, hb, hc⟩
    ·omega
    obtain ⟨c0, c1, c2, c3, c4, c5, c6, c7, c8, c9, c10, c11, c12⟩ := hc k hlt
    have i0 : (0 : Int) ≤ (k : Int) := by omega
    have i1 : (k : Int) < (n : Int) := by omega
    have hsz := hB.size
    clear hc g1
    by_cases hq : M1.fm ds (M1.up us k).dr < (M1.up us k).dn
    ·have HE : Short (ns ++ [M1.up us k]) := hns.snoc (hsh.at (i := k) (by rw [hl1.out]; exact hlt))
     go_wp2_with fail
     refine wp_region_held_drew (S := fun w' => Kp wr w') (by kernel_rfl) ?_ (fun hHeld => ?_)
     ·exact kp_zero _
     refine tZ (i:=0) (v:=?_) rfl (.inl ⟨by rfl, ?_⟩) hHeld ?_
     rotate_left
     ·(intro w hSw; (try dsimp only at hSw); go_simp; try (with_reducible rfl))
     (try simp only [Act.put, zZ])
     refine tZ (i:=1) (v:=?_) rfl (.inl ⟨by rfl, ?_⟩) hHeld ?_
     rotate_left
     ·(intro w hSw; (try dsimp only at hSw); go_simp; try (with_reducible rfl))
     (try simp only [Act.put, zZ])
     refine tZ (i:=2) (v:=?_) rfl (.inl ⟨by rfl, ?_⟩) hHeld ?_
     rotate_left
     ·(intro w hSw; (try dsimp only at hSw); go_simp; try (with_reducible rfl))
     (try simp only [Act.put, zZ])
     refine tZ (i:=3) (v:=?_) rfl (.inl ⟨by rfl, ?_⟩) hHeld ?_
     rotate_left
     ·(intro w hSw; (try dsimp only at hSw); go_simp; try (with_reducible rfl))
     (try simp only [Act.put, zZ])
     refine tZ (i:=4) (v:=?_) rfl (.inl ⟨by rfl, ?_⟩) hHeld ?_
     rotate_left
     ·(intro w hSw; (try dsimp only at hSw); go_simp; try (with_reducible rfl))
     (try simp only [Act.put, zZ])
     refine tZ (i:=5) (v:=?_) rfl (.inl ⟨by rfl, ?_⟩) hHeld ?_
     rotate_left
     ·(intro w hSw; (try dsimp only at hSw); go_simp; try (with_reducible rfl))
     (try simp only [Act.put, zZ])
     refine tZ (i:=6) (v:=?_) rfl (.inl ⟨by rfl, ?_⟩) hHeld ?_
     rotate_left
     ·(intro w hSw; (try dsimp only at hSw); go_simp; try (with_reducible rfl))
     (try simp only [Act.put, zZ])
     refine tZ (i:=7) (v:=?_) rfl (.inl ⟨by rfl, ?_⟩) hHeld ?_
     rotate_left
     ·(intro w hSw; (try dsimp only at hSw); go_simp; try (with_reducible rfl))
     (try simp only [Act.put, zZ])
     refine tZ (i:=8) (v:=?_) rfl (.inl ⟨by rfl, ?_⟩) hHeld ?_
     rotate_left
     ·(intro w hSw; (try dsimp only at hSw); go_simp; try (with_reducible rfl))
     (try simp only [Act.put, zZ])
     refine tZ (i:=9) (v:=?_) rfl (.inl ⟨by rfl, ?_⟩) hHeld ?_
     rotate_left
     ·(intro w hSw; (try dsimp only at hSw); go_simp; try (with_reducible rfl))
     (try simp only [Act.put, zZ])
     refine tZ (i:=10) (v:=?_) rfl (.inl ⟨by rfl, ?_⟩) hHeld ?_
     rotate_left
     ·(intro w hSw; (try dsimp only at hSw); go_simp; try (with_reducible rfl))
     (try simp only [Act.put, zZ])
     refine tZ (i:=11) (v:=?_) rfl (.inl ⟨by rfl, ?_⟩) hHeld ?_
     rotate_left
     ·(intro w hSw; (try dsimp only at hSw); go_simp; try (with_reducible rfl))
     (try simp only [Act.put, zZ])
     refine tZ (i:=12) (v:=?_) rfl (.inl ⟨by rfl, ?_⟩) hHeld ?_
     rotate_left
     ·(intro w hSw; (try dsimp only at hSw); go_simp; try (with_reducible rfl))
     (try simp only [Act.put, zZ])
     refine wpAnyH_ready (rs := [13]) (by kernel_rfl) (by simp) ?_
     refine AllReadyH.cons (o := _) rfl (fun K hK => ?_) AllReadyH.nil
     go_simp
     (refine (l1Of_gen _ _ _ _ _ _ (g2.below hHeld.1)).mono ?_; rintro e w' ⟨rfl, hbw⟩; subst hbw; go_wp2_with fail)
     refine hK.out _ _ ?_ (fun hHeld2 => ?_)
     ·exact hHeld
     clear hK K hHeld
     have hHeld := hHeld2
     clear hHeld2
     (try simp only [Act.put, zZ])
     refine tZ (i:=14) (v:=?_) rfl (.inl ⟨by rfl, ?_⟩) hHeld ?_
     rotate_left
     ·(intro w hSw; (try dsimp only at hSw); go_simp; try (with_reducible rfl))
     (try simp only [Act.put, zZ])
     refine wpAnyH_done (by kernel_rfl) ?_ _
     have hK1 := hHeld
     clear hHeld
     generalize wr.drew = W1 at hK1 ⊢
     have hB1 := hB.trans (hK1.1.mono hB.size)
     have hown1 := owns_below hown hK1.1
     have hK2 := hK1.2
     have hsz1 := hB1.size
     clear hK1
     go_wp2_with (at_builtin; refine wpList_append_lies _ rfl _ _ _ rfl w.heap.size 38 ti _ 13 112 Tryz.underlying26 hi1'.out hi2'.out hi3'.out hi4'.out rfl (by omega) (.slice xv ns.length xc) ns.length (ucL ns) rfl (owns_below hown1 ((Below.refl _ _).alloc (Nat.le_refl _) _)) ⟨W1.heap.size, 0, none⟩ 1 1 [.int .i64 (M1.up us k).dr, .int .i64 (M1.up us k).dn, .int .i64 (M1.up us k).sw, .int .i64 (M1.up us k).sc, .int .i64 (M1.up us k).sr, .int .i64 (M1.up us k).k, .int .i64 (M1.up us k).tr, .int .i64 (M1.up us k).id, .int .i64 (M1.up us k).pa, .string (M1.up us k).s, .int .i64 (M1.up us k).st, .int .i64 (M1.up us k).en, .int .i64 (M1.up us k).lv] rfl rfl (news13 _ _ _ _ _ _ _ _ _ _ _ _ _ _ _) (one13 _) (by omega) (by unfold maxLen; omega) (by omega) (by simp; omega) _ rfl ?_; intro g4 cap4 w4 hown4 hgrow4 hat4 hlt4)
     have hB4 : Below w.heap.size w w4 := (hB1.alloc hB1.size _).grown hgrow4 (by simp; omega) (owns_base hown1)
     have el : (ns ++ [M1.up us k]).length = ns.length + 1 := by simp
     exact ⟨⟨k + 1, ns ++ [M1.up us k], some ⟨g4, 0, none⟩, cap4, by omega, by go_num, HE, by omega, by rw [el], (by have q := ownsU_snoc (u := M1.up us k) hown4; rw [el] at q ⊢; exact q), hB4⟩, by simp [intOf]; omega⟩
    ·have HE := hns
     go_wp2_with fail
     refine wp_region_held_drew (S := fun w' => Kp wr w') (by kernel_rfl) ?_ (fun hHeld => ?_)
     ·exact kp_zero _
     refine tZ (i:=0) (v:=?_) rfl (.inl ⟨by rfl, ?_⟩) hHeld ?_
     rotate_left
     ·(intro w hSw; (try dsimp only at hSw); go_simp; try (with_reducible rfl))
     (try simp only [Act.put, zZ])
     refine tZ (i:=1) (v:=?_) rfl (.inl ⟨by rfl, ?_⟩) hHeld ?_
     rotate_left
     ·(intro w hSw; (try dsimp only at hSw); go_simp; try (with_reducible rfl))
     (try simp only [Act.put, zZ])
     refine tZ (i:=2) (v:=?_) rfl (.inl ⟨by rfl, ?_⟩) hHeld ?_
     rotate_left
     ·(intro w hSw; (try dsimp only at hSw); go_simp; try (with_reducible rfl))
     (try simp only [Act.put, zZ])
     refine tZ (i:=3) (v:=?_) rfl (.inl ⟨by rfl, ?_⟩) hHeld ?_
     rotate_left
     ·(intro w hSw; (try dsimp only at hSw); go_simp; try (with_reducible rfl))
     (try simp only [Act.put, zZ])
     refine tZ (i:=4) (v:=?_) rfl (.inl ⟨by rfl, ?_⟩) hHeld ?_
     rotate_left
     ·(intro w hSw; (try dsimp only at hSw); go_simp; try (with_reducible rfl))
     (try simp only [Act.put, zZ])
     refine tZ (i:=5) (v:=?_) rfl (.inl ⟨by rfl, ?_⟩) hHeld ?_
     rotate_left
     ·(intro w hSw; (try dsimp only at hSw); go_simp; try (with_reducible rfl))
     (try simp only [Act.put, zZ])
     refine tZ (i:=6) (v:=?_) rfl (.inl ⟨by rfl, ?_⟩) hHeld ?_
     rotate_left
     ·(intro w hSw; (try dsimp only at hSw); go_simp; try (with_reducible rfl))
     (try simp only [Act.put, zZ])
     refine tZ (i:=7) (v:=?_) rfl (.inl ⟨by rfl, ?_⟩) hHeld ?_
     rotate_left
     ·(intro w hSw; (try dsimp only at hSw); go_simp; try (with_reducible rfl))
     (try simp only [Act.put, zZ])
     refine tZ (i:=8) (v:=?_) rfl (.inl ⟨by rfl, ?_⟩) hHeld ?_
     rotate_left
     ·(intro w hSw; (try dsimp only at hSw); go_simp; try (with_reducible rfl))
     (try simp only [Act.put, zZ])
     refine tZ (i:=9) (v:=?_) rfl (.inl ⟨by rfl, ?_⟩) hHeld ?_
     rotate_left
     ·(intro w hSw; (try dsimp only at hSw); go_simp; try (with_reducible rfl))
     (try simp only [Act.put, zZ])
     refine tZ (i:=10) (v:=?_) rfl (.inl ⟨by rfl, ?_⟩) hHeld ?_
     rotate_left
     ·(intro w hSw; (try dsimp only at hSw); go_simp; try (with_reducible rfl))
     (try simp only [Act.put, zZ])
     refine tZ (i:=11) (v:=?_) rfl (.inl ⟨by rfl, ?_⟩) hHeld ?_
     rotate_left
     ·(intro w hSw; (try dsimp only at hSw); go_simp; try (with_reducible rfl))
     (try simp only [Act.put, zZ])
     refine tZ (i:=12) (v:=?_) rfl (.inl ⟨by rfl, ?_⟩) hHeld ?_
     rotate_left
     ·(intro w hSw; (try dsimp only at hSw); go_simp; try (with_reducible rfl))
     (try simp only [Act.put, zZ])
     refine wpAnyH_ready (rs := [13]) (by kernel_rfl) (by simp) ?_
     refine AllReadyH.cons (o := _) rfl (fun K hK => ?_) AllReadyH.nil
     go_simp
     (refine (l1Of_gen _ _ _ _ _ _ (g2.below hHeld.1)).mono ?_; rintro e w' ⟨rfl, hbw⟩; subst hbw; go_wp2_with fail)
     refine hK.out _ _ ?_ (fun hHeld2 => ?_)
     ·exact hHeld
     clear hK K hHeld
     have hHeld := hHeld2
     clear hHeld2
     (try simp only [Act.put, zZ])
     refine tZ (i:=14) (v:=?_) rfl (.inl ⟨by rfl, ?_⟩) hHeld ?_
     rotate_left
     ·(intro w hSw; (try dsimp only at hSw); go_simp; try (with_reducible rfl))
     (try simp only [Act.put, zZ])
     refine wpAnyH_done (by kernel_rfl) ?_ _
     have hK1 := hHeld
     clear hHeld
     generalize wr.drew = W1 at hK1 ⊢
     have hB1 := hB.trans (hK1.1.mono hB.size)
     have hown1 := owns_below hown hK1.1
     clear hK1
     go_wp2_with fail
     exact ⟨⟨k + 1, ns, xv, xc, by omega, by go_num, HE, by omega, rfl, hown1, hB1⟩, by simp [intOf]; omega⟩
   ·go_wp2_with fail
    go_ret
    exact ⟨⟨_, ns, rfl, hown, by omega, hns⟩, hB⟩
  ·go_wp2_with fail
   go_ret
   exact ⟨⟨_, ns, rfl, hown, by omega, hns⟩, hB⟩

end Go.Proofs.YtccendmoeelniaaGreatDoor
