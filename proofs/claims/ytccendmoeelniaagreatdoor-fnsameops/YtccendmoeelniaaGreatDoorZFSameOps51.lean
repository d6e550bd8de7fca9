/-
  For every slice of bytes the law FnSameOps answers true: two regions that retire a trace, neither of which knows of the other one, retire it once. The variables that the card lists are as the program's text lays them (the card's tie). (tools/mkfnsame.py)
-/
import Derived.Test.YtccendmoeelniaaGreatDoorZFSameOps49
import Derived.Test.YtccendmoeelniaaGreatDoorZFSameOps50
import Derived.Test.YtccendmoeelniaaGreatDoorZFSameOps17
import Derived.Test.YtccendmoeelniaaGreatDoorZFSameOps32
import Derived.Test.YtccendmoeelniaaGreatDoorZFSameOps29
import Derived.Test.YtccendmoeelniaaGreatDoorZFSameOps41
import Derived.Test.YtccendmoeelniaaGreatDoorCards
import Derived.Test.YtccendmoeelniaaGreatDoorTie
import Derived.SevenTiedAt
import Derived.Stop.LaidErr
import Derived.LaidMore
import Derived.LaidHandle
import Derived.OpenVars
import Derived.ChangeSame
import Derived.ChangeVars
import Derived.JoinedOf
import Derived.Stop.Joined
import Derived.OpenShut
import Derived.ShutString
import Derived.ChangeOld
import Derived.Lib.SmallJoins
namespace Go.Proofs.YtccendmoeelniaaGreatDoor.fnSameOps
open Go.ChangeShapes Go.WideShapes Go.ChangeAt Go.RowKit
set_option linter.unusedVariables false
set_option linter.unusedSimpArgs false
theorem rg_who {w : World} {p : Nat} {id a b c : Int} {av : Option Addr} {n cn : Nat} (h : RgAt w p id a b c av n cn) (x : Int) : RgAt (w.setCell ⟨p, 3, none⟩ (.int .i64 x)) p id a b x av n cn :=
 RowAt.same (h.set (o := 3) (by omega) (.int .i64 x)) fun o ho => by
  match o, ho with
  | 0, _ => rfl
  | 1, _ => rfl
  | 2, _ => rfl
  | 3, _ => rfl
  | 4, _ => rfl

theorem mu_hi {w : World} {av : Option Addr} {n cap lo hi z : Nat} {f : Nat → Value} (h : MU w av n cap lo hi f) (hz : hi ≤ z) : ∀ q, av = some q → ¬ q.block = z := fun q hq => by
 rcases h.2.2 with ⟨_, e⟩ | ⟨g, e, h1, h2, _⟩
 ·rw [e] at hq; cases hq
 ·rw [e] at hq; cases hq; show ¬ g = z; omega

theorem mu_far7 {w : World} {av : Option Addr} {n cap lo hi z : Nat} {f : Nat → Value} (h : MU w av n cap lo hi f) (hz : ∀ q, av = some q → ¬ q.block = z) (v0 v1 v2 v3 v4 v5 v6 : Value) : MU (((((((w.setCell ⟨z, 0, none⟩ v0).setCell ⟨z, 1, none⟩ v1).setCell ⟨z, 2, none⟩ v2).setCell ⟨z, 3, none⟩ v3).setCell ⟨z, 4, none⟩ v4).setCell ⟨z, 5, none⟩ v5).setCell ⟨z, 6, none⟩ v6) av n cap lo hi f :=
 mu_far (p := ⟨z, 6, none⟩) (mu_far (p := ⟨z, 5, none⟩) (mu_far (p := ⟨z, 4, none⟩) (mu_far (p := ⟨z, 3, none⟩) (mu_far (p := ⟨z, 2, none⟩) (mu_far (p := ⟨z, 1, none⟩) (mu_far (p := ⟨z, 0, none⟩) h hz v0) hz v1) hz v2) hz v3) hz v4) hz v5) hz v6

set_option maxHeartbeats 40000000 in
set_option maxRecDepth 100000 in
theorem walk (av : Option Addr) (len cap : Nat) (w : World) (h : IsBytes w av len cap) (hS : ∃ s0 s1 s2 s3 s4, Sens w s0 s1 s2 s3 s4) :
  Calls Tryz.prog 5 #[.slice av len cap] w fun e w' => e = .returned (.bool true) ∧ Below w.heap.size w w' := by
 obtain ⟨s0, s1, s2, s3, s4, S⟩ := hS
 by_cases hl : (1048576 : Int) < (len : Int)
 ·go_enter Tryz.func5, Tryz.ntmps5
  go_wp2_with fail
  refine (big_any _ _ _ _ h.hc h.hm).mono ?_
  rw [decide_eq_true hl]
  rintro e w0 ⟨rfl, rfl⟩
  go_wp2_with fail
  go_ret
  exact ⟨rfl, Below.refl _ _⟩
 ·go_enter Tryz.func5, Tryz.ntmps5
  go_wp2_with fail
  refine (big_any _ _ _ _ h.hc h.hm).mono ?_
  rw [decide_eq_false (by omega : ¬ (1048576 : Int) < (len : Int))]
  rintro e w0 ⟨rfl, hw0⟩
  obtain rfl := hw0.symm
  go_wp2_with fail
  refine (drawIssued_any _ _ _ _ h).mono ?_
  rintro e w1 ⟨r, v, c, x, now, rfl, mr, hset, hx, B1⟩
  obtain ⟨n, hne⟩ : ∃ n, Hid (r.us.length = n) := ⟨_, rfl⟩
  have HRs : Hid (∀ i, i < n → (M1.up r.us i).s.size ≤ maxLen) := (by rw [← hne.out]; exact set_short2 hset : ∀ i, i < n → (M1.up r.us i).s.size ≤ maxLen)
  rw [hne.out] at mr ⊢
  have u1 := mr
  clear mr
  have hs1 := B1.size
  have hb2 : Below w1.heap.size w1 ((w1.alloc (.cells #[.int .i64 r.id, .int .i64 r.a, .int .i64 r.b, .int .i64 r.c, .slice v n c] 28)).alloc (.cells #[.int .i64 x.k, .int .i64 x.t, .int .i64 x.id, .int .i64 x.pa, .string x.s, .int .i64 x.st, .int .i64 x.en] 32)) := ((Below.refl _ _).alloc (Nat.le_refl _) _).alloc (by simp <;> omega) _
  have A2 : RgAt ((w1.alloc (.cells #[.int .i64 r.id, .int .i64 r.a, .int .i64 r.b, .int .i64 r.c, .slice v n c] 28)).alloc (.cells #[.int .i64 x.k, .int .i64 x.t, .int .i64 x.id, .int .i64 x.pa, .string x.s, .int .i64 x.st, .int .i64 x.en] 32)) w1.heap.size r.id r.a r.b r.c v n c := (rg_new w1 r.id r.a r.b r.c v n c 28).alloc _
  have E2 : OpAt ((w1.alloc (.cells #[.int .i64 r.id, .int .i64 r.a, .int .i64 r.b, .int .i64 r.c, .slice v n c] 28)).alloc (.cells #[.int .i64 x.k, .int .i64 x.t, .int .i64 x.id, .int .i64 x.pa, .string x.s, .int .i64 x.st, .int .i64 x.en] 32)) (w1.alloc (.cells #[.int .i64 r.id, .int .i64 r.a, .int .i64 r.b, .int .i64 r.c, .slice v n c] 28)).heap.size x := op_new (w1.alloc (.cells #[.int .i64 r.id, .int .i64 r.a, .int .i64 r.b, .int .i64 r.c, .slice v n c] 28)) x 32
  rw [show (w1.alloc (.cells #[.int .i64 r.id, .int .i64 r.a, .int .i64 r.b, .int .i64 r.c, .slice v n c] 28)).heap.size = w1.heap.size + 1 by simp] at E2
  go_upto_region 4 with fail
  obtain ⟨w2, hw2⟩ : ∃ W, ((w1.alloc (.cells #[.int .i64 r.id, .int .i64 r.a, .int .i64 r.b, .int .i64 r.c, .slice v n c] 28)).alloc (.cells #[.int .i64 x.k, .int .i64 x.t, .int .i64 x.id, .int .i64 x.pa, .string x.s, .int .i64 x.st, .int .i64 x.en] 32)) = W := ⟨_, rfl⟩
  rw [hw2] at hb2 A2 E2 ⊢
  clear hw2
  have B2 := B1.trans (hb2.mono B1.size)
  have hs2 := hb2.size
  obtain ⟨gE, hgE⟩ : ∃ g, Hid (w1.heap.size + 1 = g) := ⟨_, rfl⟩
  rw [hgE.out] at E2 ⊢
  obtain ⟨gA, hgA⟩ : ∃ g, Hid (w1.heap.size = g) := ⟨_, rfl⟩
  rw [hgA.out] at A2 ⊢
  have u2 : MU w2 v n c w.heap.size w1.heap.size (ucell r.us) := u1.below hb2
  clear u1
  have hgAlo : w1.heap.size ≤ gA := by have := hgA.out; omega
  have hgElo : w1.heap.size ≤ gE := by have := hgE.out; omega
  have hgAE : ¬ gA = gE := by have := hgA.out; have := hgE.out; omega
  obtain ⟨o1, ho1⟩ : ∃ o, Hid (M1.rOk r = o) := ⟨_, rfl⟩
  have ho1' : M1.regOk r.id r.a r.b r.c r.us = o1 := ho1.out
  obtain ⟨d0, d1, d2, d3, d4⟩ := A2.cells
  have dl := A2.lt
  go_cut [43] (fun v wc => v = .bool (!(o1 && M1.inB now 0 1000000000)) ∧ Below w2.heap.size w2 wc)
  case first =>
   cases o1 with
   | false =>
    go_wp2_with fail
    refine wp_region_held_drew (S := fun w' => Kp w2 w') (by kernel_rfl) ?_ (fun hHeld => ?_)
    ·exact kp_zero _
    refine tZ (i:=0) (v:=?_) rfl (.inl ⟨by rfl, ?_⟩) hHeld ?_
    rotate_left
    ·(intro w hSw; (try dsimp only at hSw); go_simp; try (with_reducible rfl))
    (try simp only [Act.put, zZ])
    refine wpAnyH_ready (rs := [1]) (by kernel_rfl) (by simp) ?_
    refine AllReadyH.cons (o := _) rfl (fun K hK => ?_) AllReadyH.nil
    go_simp
    (have js := regionOk_spec r.id r.a r.b r.c _ _ _ r.us _ (((u2.upds hne.out HRs.out)).below hHeld.1); rw [ho1'] at js; refine js.mono ?_; clear js; rintro e wa ⟨rfl, hb⟩; go_wp2_with fail)
    refine hK.out _ _ ?_ (fun hHeld2 => ?_)
    ·exact kp_step hHeld hb
    clear hK K hHeld
    have hHeld := hHeld2
    clear hHeld2
    (try simp only [Act.put, zZ])
    refine tZ (i:=2) (v:=?_) rfl (.inl ⟨by rfl, ?_⟩) hHeld ?_
    rotate_left
    ·(intro w hSw; (try dsimp only at hSw); go_simp; try (with_reducible rfl))
    (try simp only [Act.put, zZ])
    refine tZ (i:=3) (v:=?_) rfl (.inl ⟨by rfl, ?_⟩) hHeld ?_
    rotate_left
    ·(intro w hSw; (try dsimp only at hSw); go_simp; try (with_reducible rfl))
    (try simp only [Act.put, zZ])
    refine tZ (i:=4) (v:=undef) rfl (.inr ⟨by rfl, rfl⟩) hHeld ?_
    (try simp only [Act.put, zZ])
    refine tZ (i:=5) (v:=undef) rfl (.inr ⟨by rfl, rfl⟩) hHeld ?_
    (try simp only [Act.put, zZ])
    refine tZ (i:=6) (v:=undef) rfl (.inr ⟨by rfl, rfl⟩) hHeld ?_
    (try simp only [Act.put, zZ])
    refine tZ (i:=7) (v:=undef) rfl (.inr ⟨by rfl, rfl⟩) hHeld ?_
    (try simp only [Act.put, zZ])
    refine tZ (i:=8) (v:=undef) rfl (.inr ⟨by rfl, rfl⟩) hHeld ?_
    (try simp only [Act.put, zZ])
    refine tZ (i:=9) (v:=?_) rfl (.inl ⟨by rfl, ?_⟩) hHeld ?_
    rotate_left
    ·(intro w hSw; (try dsimp only at hSw); go_simp; try (with_reducible rfl))
    (try simp only [Act.put, zZ])
    refine tZ (i:=10) (v:=?_) rfl (.inl ⟨by rfl, ?_⟩) hHeld ?_
    rotate_left
    ·(intro w hSw; (try dsimp only at hSw); go_simp; try (with_reducible rfl))
    (try simp only [Act.put, zZ])
    refine tZ (i:=11) (v:=undef) rfl (.inr ⟨by rfl, rfl⟩) hHeld ?_
    (try simp only [Act.put, zZ])
    refine tZ (i:=12) (v:=undef) rfl (.inr ⟨by rfl, rfl⟩) hHeld ?_
    (try simp only [Act.put, zZ])
    refine tZ (i:=13) (v:=?_) rfl (.inl ⟨by rfl, ?_⟩) hHeld ?_
    rotate_left
    ·(intro w hSw; (try dsimp only at hSw); go_simp; try (with_reducible rfl))
    (try simp only [Act.put, zZ])
    refine tZ (i:=14) (v:=?_) rfl (.inl ⟨by rfl, ?_⟩) hHeld ?_
    rotate_left
    ·(intro w hSw; (try dsimp only at hSw); go_simp; try (with_reducible rfl))
    (try simp only [Act.put, zZ])
    refine tZ (i:=15) (v:=undef) rfl (.inr ⟨by rfl, rfl⟩) hHeld ?_
    (try simp only [Act.put, zZ])
    refine tZ (i:=16) (v:=undef) rfl (.inr ⟨by rfl, rfl⟩) hHeld ?_
    (try simp only [Act.put, zZ])
    refine tZ (i:=17) (v:=?_) rfl (.inl ⟨by rfl, ?_⟩) hHeld ?_
    rotate_left
    ·(intro w hSw; (try dsimp only at hSw); go_simp; try (with_reducible rfl))
    (try simp only [Act.put, zZ])
    refine wpAnyH_done (by kernel_rfl) ?_ _
    have Bd := hHeld.1
    clear hHeld
    go_wp2_with fail
    go_meet
    exact ⟨rfl, Bd⟩
   | true =>
    by_cases hn0 : now < 0
    ·have hl9 : decide (now < 0) = true := decide_eq_true hn0
     have hin9 : M1.inB now 0 1000000000 = false := by simp [M1.inB]; omega
     go_wp2_with fail
     refine wp_region_held_drew (S := fun w' => Kp w2 w') (by kernel_rfl) ?_ (fun hHeld => ?_)
     ·exact kp_zero _
     refine tZ (i:=0) (v:=?_) rfl (.inl ⟨by rfl, ?_⟩) hHeld ?_
     rotate_left
     ·(intro w hSw; (try dsimp only at hSw); go_simp; try (with_reducible rfl))
     (try simp only [Act.put, zZ])
     refine wpAnyH_ready (rs := [1]) (by kernel_rfl) (by simp) ?_
     refine AllReadyH.cons (o := _) rfl (fun K hK => ?_) AllReadyH.nil
     go_simp
     (have js := regionOk_spec r.id r.a r.b r.c _ _ _ r.us _ (((u2.upds hne.out HRs.out)).below hHeld.1); rw [ho1'] at js; refine js.mono ?_; clear js; rintro e wa ⟨rfl, hb⟩; go_wp2_with fail)
     refine hK.out _ _ ?_ (fun hHeld2 => ?_)
     ·exact kp_step hHeld hb
     clear hK K hHeld
     have hHeld := hHeld2
     clear hHeld2
     (try simp only [Act.put, zZ])
     refine tZ (i:=2) (v:=?_) rfl (.inl ⟨by rfl, ?_⟩) hHeld ?_
     rotate_left
     ·(intro w hSw; (try dsimp only at hSw); go_simp; try (with_reducible rfl))
     (try simp only [Act.put, zZ])
     refine tZ (i:=3) (v:=?_) rfl (.inl ⟨by rfl, ?_⟩) hHeld ?_
     rotate_left
     ·(intro w hSw; (try dsimp only at hSw); go_simp; try (with_reducible rfl))
     (try simp only [Act.put, zZ])
     refine tZ (i:=4) (v:=?_) rfl (.inl ⟨by rfl, ?_⟩) hHeld ?_
     rotate_left
     ·(intro w hSw; (try dsimp only at hSw); go_simp; try (with_reducible rfl))
     (try simp only [Act.put, zZ])
     refine tZ (i:=6) (v:=?_) rfl (.inl ⟨by rfl, ?_⟩) hHeld ?_
     rotate_left
     ·(intro w hSw; (try dsimp only at hSw); go_simp; try (with_reducible rfl))
     (try simp only [Act.put, zZ])
     refine wpAnyH_ready (rs := [5]) (by kernel_rfl) (by simp) ?_
     refine AllReadyH.cons (o := _) rfl (fun K hK => ?_) AllReadyH.nil
     go_simp
     (have js := regionOk_impl r.id r.a r.b r.c _ _ _ r.us _ (((u2.upds hne.out HRs.out)).below hHeld.1); rw [ho1'] at js; refine js.mono ?_; clear js; rintro e wb ⟨rfl, hb⟩; go_wp2_with fail)
     refine hK.out _ _ ?_ (fun hHeld2 => ?_)
     ·exact kp_step hHeld hb
     clear hK K hHeld
     have hHeld := hHeld2
     clear hHeld2
     (try simp only [Act.put, zZ])
     refine wpAnyH_ready (rs := [7]) (by kernel_rfl) (by simp) ?_
     refine AllReadyH.cons (o := _) rfl (fun K hK => ?_) AllReadyH.nil
     go_simp
     (have js := regionOk_spec r.id r.a r.b r.c _ _ _ r.us _ (((u2.upds hne.out HRs.out)).below hHeld.1); rw [ho1'] at js; refine js.mono ?_; clear js; rintro e wd ⟨rfl, hb⟩; go_wp2_with fail)
     refine hK.out _ _ ?_ (fun hHeld2 => ?_)
     ·exact kp_step hHeld hb
     clear hK K hHeld
     have hHeld := hHeld2
     clear hHeld2
     (try simp only [Act.put, zZ])
     refine tZ (i:=8) (v:=.bool false) rfl (.inl ⟨by rfl, ?_⟩) hHeld ?_
     ·(intro w hSw; (try dsimp only at hSw); go_simp; (try rfl))
     (try simp only [Act.put, zZ])
     refine tZ (i:=9) (v:=?_) rfl (.inl ⟨by rfl, ?_⟩) hHeld ?_
     rotate_left
     ·(intro w hSw; (try dsimp only at hSw); go_simp; try (with_reducible rfl))
     (try simp only [Act.put, zZ])
     refine tZ (i:=10) (v:=?_) rfl (.inl ⟨by rfl, ?_⟩) hHeld ?_
     rotate_left
     ·(intro w hSw; (try dsimp only at hSw); go_simp; try (with_reducible rfl))
     (try simp only [Act.put, zZ])
     refine tZ (i:=11) (v:=?_) rfl (.inl ⟨by rfl, ?_⟩) hHeld ?_
     rotate_left
     ·(intro w hSw; (try dsimp only at hSw); go_simp; try (with_reducible rfl))
     (try simp only [Act.put, zZ])
     refine tZ (i:=12) (v:=.bool true) rfl (.inl ⟨by rfl, ?_⟩) hHeld ?_
     ·(intro w hSw; (try dsimp only at hSw); go_simp; (try (first | exact congrArg Value.bool hl9 | simp [hl9])))
     (try simp only [Act.put, zZ])
     refine tZ (i:=13) (v:=?_) rfl (.inl ⟨by rfl, ?_⟩) hHeld ?_
     rotate_left
     ·(intro w hSw; (try dsimp only at hSw); go_simp; try (with_reducible rfl))
     (try simp only [Act.put, zZ])
     refine tZ (i:=14) (v:=?_) rfl (.inl ⟨by rfl, ?_⟩) hHeld ?_
     rotate_left
     ·(intro w hSw; (try dsimp only at hSw); go_simp; try (with_reducible rfl))
     (try simp only [Act.put, zZ])
     refine tZ (i:=15) (v:=undef) rfl (.inr ⟨by rfl, rfl⟩) hHeld ?_
     (try simp only [Act.put, zZ])
     refine tZ (i:=16) (v:=undef) rfl (.inr ⟨by rfl, rfl⟩) hHeld ?_
     (try simp only [Act.put, zZ])
     refine tZ (i:=17) (v:=?_) rfl (.inl ⟨by rfl, ?_⟩) hHeld ?_
     rotate_left
     ·(intro w hSw; (try dsimp only at hSw); go_simp; try (with_reducible rfl))
     (try simp only [Act.put, zZ])
     refine wpAnyH_done (by kernel_rfl) ?_ _
     have Bd := hHeld.1
     clear hHeld
     go_wp2_with fail
     go_meet
     exact ⟨by rw [hin9]; rfl, Bd⟩
    ·have hl9 : decide (now < 0) = false := decide_eq_false hn0
     by_cases hn1 : 1000000000 < now
     ·have hg9 : decide ((1000000000 : Int) < now) = true := decide_eq_true hn1
      have hin9 : M1.inB now 0 1000000000 = false := by simp [M1.inB]; omega
      go_wp2_with fail
      refine wp_region_held_drew (S := fun w' => Kp w2 w') (by kernel_rfl) ?_ (fun hHeld => ?_)
      ·exact kp_zero _
      refine tZ (i:=0) (v:=?_) rfl (.inl ⟨by rfl, ?_⟩) hHeld ?_
      rotate_left
      ·(intro w hSw; (try dsimp only at hSw); go_simp; try (with_reducible rfl))
      (try simp only [Act.put, zZ])
      refine wpAnyH_ready (rs := [1]) (by kernel_rfl) (by simp) ?_
      refine AllReadyH.cons (o := _) rfl (fun K hK => ?_) AllReadyH.nil
      go_simp
      (have js := regionOk_spec r.id r.a r.b r.c _ _ _ r.us _ (((u2.upds hne.out HRs.out)).below hHeld.1); rw [ho1'] at js; refine js.mono ?_; clear js; rintro e wa ⟨rfl, hb⟩; go_wp2_with fail)
      refine hK.out _ _ ?_ (fun hHeld2 => ?_)
      ·exact kp_step hHeld hb
      clear hK K hHeld
      have hHeld := hHeld2
      clear hHeld2
      (try simp only [Act.put, zZ])
      refine tZ (i:=2) (v:=?_) rfl (.inl ⟨by rfl, ?_⟩) hHeld ?_
      rotate_left
      ·(intro w hSw; (try dsimp only at hSw); go_simp; try (with_reducible rfl))
      (try simp only [Act.put, zZ])
      refine tZ (i:=3) (v:=?_) rfl (.inl ⟨by rfl, ?_⟩) hHeld ?_
      rotate_left
      ·(intro w hSw; (try dsimp only at hSw); go_simp; try (with_reducible rfl))
      (try simp only [Act.put, zZ])
      refine tZ (i:=4) (v:=?_) rfl (.inl ⟨by rfl, ?_⟩) hHeld ?_
      rotate_left
      ·(intro w hSw; (try dsimp only at hSw); go_simp; try (with_reducible rfl))
      (try simp only [Act.put, zZ])
      refine tZ (i:=6) (v:=?_) rfl (.inl ⟨by rfl, ?_⟩) hHeld ?_
      rotate_left
      ·(intro w hSw; (try dsimp only at hSw); go_simp; try (with_reducible rfl))
      (try simp only [Act.put, zZ])
      refine wpAnyH_ready (rs := [5]) (by kernel_rfl) (by simp) ?_
      refine AllReadyH.cons (o := _) rfl (fun K hK => ?_) AllReadyH.nil
      go_simp
      (have js := regionOk_impl r.id r.a r.b r.c _ _ _ r.us _ (((u2.upds hne.out HRs.out)).below hHeld.1); rw [ho1'] at js; refine js.mono ?_; clear js; rintro e wb ⟨rfl, hb⟩; go_wp2_with fail)
      refine hK.out _ _ ?_ (fun hHeld2 => ?_)
      ·exact kp_step hHeld hb
      clear hK K hHeld
      have hHeld := hHeld2
      clear hHeld2
      (try simp only [Act.put, zZ])
      refine wpAnyH_ready (rs := [7]) (by kernel_rfl) (by simp) ?_
      refine AllReadyH.cons (o := _) rfl (fun K hK => ?_) AllReadyH.nil
      go_simp
      (have js := regionOk_spec r.id r.a r.b r.c _ _ _ r.us _ (((u2.upds hne.out HRs.out)).below hHeld.1); rw [ho1'] at js; refine js.mono ?_; clear js; rintro e wd ⟨rfl, hb⟩; go_wp2_with fail)
      refine hK.out _ _ ?_ (fun hHeld2 => ?_)
      ·exact kp_step hHeld hb
      clear hK K hHeld
      have hHeld := hHeld2
      clear hHeld2
      (try simp only [Act.put, zZ])
      refine tZ (i:=8) (v:=.bool false) rfl (.inl ⟨by rfl, ?_⟩) hHeld ?_
      ·(intro w hSw; (try dsimp only at hSw); go_simp; (try rfl))
      (try simp only [Act.put, zZ])
      refine tZ (i:=9) (v:=?_) rfl (.inl ⟨by rfl, ?_⟩) hHeld ?_
      rotate_left
      ·(intro w hSw; (try dsimp only at hSw); go_simp; try (with_reducible rfl))
      (try simp only [Act.put, zZ])
      refine tZ (i:=10) (v:=?_) rfl (.inl ⟨by rfl, ?_⟩) hHeld ?_
      rotate_left
      ·(intro w hSw; (try dsimp only at hSw); go_simp; try (with_reducible rfl))
      (try simp only [Act.put, zZ])
      refine tZ (i:=11) (v:=?_) rfl (.inl ⟨by rfl, ?_⟩) hHeld ?_
      rotate_left
      ·(intro w hSw; (try dsimp only at hSw); go_simp; try (with_reducible rfl))
      (try simp only [Act.put, zZ])
      refine tZ (i:=12) (v:=.bool false) rfl (.inl ⟨by rfl, ?_⟩) hHeld ?_
      ·(intro w hSw; (try dsimp only at hSw); go_simp; (try (first | exact congrArg Value.bool hl9 | simp [hl9])))
      (try simp only [Act.put, zZ])
      refine tZ (i:=13) (v:=?_) rfl (.inl ⟨by rfl, ?_⟩) hHeld ?_
      rotate_left
      ·(intro w hSw; (try dsimp only at hSw); go_simp; try (with_reducible rfl))
      (try simp only [Act.put, zZ])
      refine tZ (i:=14) (v:=?_) rfl (.inl ⟨by rfl, ?_⟩) hHeld ?_
      rotate_left
      ·(intro w hSw; (try dsimp only at hSw); go_simp; try (with_reducible rfl))
      (try simp only [Act.put, zZ])
      refine tZ (i:=15) (v:=?_) rfl (.inl ⟨by rfl, ?_⟩) hHeld ?_
      rotate_left
      ·(intro w hSw; (try dsimp only at hSw); go_simp; try (with_reducible rfl))
      (try simp only [Act.put, zZ])
      refine tZ (i:=16) (v:=.bool true) rfl (.inl ⟨by rfl, ?_⟩) hHeld ?_
      ·(intro w hSw; (try dsimp only at hSw); go_simp; (try (first | exact congrArg Value.bool hg9 | simp [hg9])))
      (try simp only [Act.put, zZ])
      refine tZ (i:=17) (v:=?_) rfl (.inl ⟨by rfl, ?_⟩) hHeld ?_
      rotate_left
      ·(intro w hSw; (try dsimp only at hSw); go_simp; try (with_reducible rfl))
      (try simp only [Act.put, zZ])
      refine wpAnyH_done (by kernel_rfl) ?_ _
      have Bd := hHeld.1
      clear hHeld
      go_wp2_with fail
      go_meet
      exact ⟨by rw [hin9]; rfl, Bd⟩
     ·have hg9 : decide ((1000000000 : Int) < now) = false := decide_eq_false hn1
      have hin9 : M1.inB now 0 1000000000 = true := M1.inB_mk (by omega) (by omega)
      go_wp2_with fail
      refine wp_region_held_drew (S := fun w' => Kp w2 w') (by kernel_rfl) ?_ (fun hHeld => ?_)
      ·exact kp_zero _
      refine tZ (i:=0) (v:=?_) rfl (.inl ⟨by rfl, ?_⟩) hHeld ?_
      rotate_left
      ·(intro w hSw; (try dsimp only at hSw); go_simp; try (with_reducible rfl))
      (try simp only [Act.put, zZ])
      refine wpAnyH_ready (rs := [1]) (by kernel_rfl) (by simp) ?_
      refine AllReadyH.cons (o := _) rfl (fun K hK => ?_) AllReadyH.nil
      go_simp
      (have js := regionOk_spec r.id r.a r.b r.c _ _ _ r.us _ (((u2.upds hne.out HRs.out)).below hHeld.1); rw [ho1'] at js; refine js.mono ?_; clear js; rintro e wa ⟨rfl, hb⟩; go_wp2_with fail)
      refine hK.out _ _ ?_ (fun hHeld2 => ?_)
      ·exact kp_step hHeld hb
      clear hK K hHeld
      have hHeld := hHeld2
      clear hHeld2
      (try simp only [Act.put, zZ])
      refine tZ (i:=2) (v:=?_) rfl (.inl ⟨by rfl, ?_⟩) hHeld ?_
      rotate_left
      ·(intro w hSw; (try dsimp only at hSw); go_simp; try (with_reducible rfl))
      (try simp only [Act.put, zZ])
      refine tZ (i:=3) (v:=?_) rfl (.inl ⟨by rfl, ?_⟩) hHeld ?_
      rotate_left
      ·(intro w hSw; (try dsimp only at hSw); go_simp; try (with_reducible rfl))
      (try simp only [Act.put, zZ])
      refine tZ (i:=4) (v:=?_) rfl (.inl ⟨by rfl, ?_⟩) hHeld ?_
      rotate_left
      ·(intro w hSw; (try dsimp only at hSw); go_simp; try (with_reducible rfl))
      (try simp only [Act.put, zZ])
      refine tZ (i:=6) (v:=?_) rfl (.inl ⟨by rfl, ?_⟩) hHeld ?_
      rotate_left
      ·(intro w hSw; (try dsimp only at hSw); go_simp; try (with_reducible rfl))
      (try simp only [Act.put, zZ])
      refine wpAnyH_ready (rs := [5]) (by kernel_rfl) (by simp) ?_
      refine AllReadyH.cons (o := _) rfl (fun K hK => ?_) AllReadyH.nil
      go_simp
      (have js := regionOk_impl r.id r.a r.b r.c _ _ _ r.us _ (((u2.upds hne.out HRs.out)).below hHeld.1); rw [ho1'] at js; refine js.mono ?_; clear js; rintro e wb ⟨rfl, hb⟩; go_wp2_with fail)
      refine hK.out _ _ ?_ (fun hHeld2 => ?_)
      ·exact kp_step hHeld hb
      clear hK K hHeld
      have hHeld := hHeld2
      clear hHeld2
      (try simp only [Act.put, zZ])
      refine wpAnyH_ready (rs := [7]) (by kernel_rfl) (by simp) ?_
      refine AllReadyH.cons (o := _) rfl (fun K hK => ?_) AllReadyH.nil
      go_simp
      (have js := regionOk_spec r.id r.a r.b r.c _ _ _ r.us _ (((u2.upds hne.out HRs.out)).below hHeld.1); rw [ho1'] at js; refine js.mono ?_; clear js; rintro e wd ⟨rfl, hb⟩; go_wp2_with fail)
      refine hK.out _ _ ?_ (fun hHeld2 => ?_)
      ·exact kp_step hHeld hb
      clear hK K hHeld
      have hHeld := hHeld2
      clear hHeld2
      (try simp only [Act.put, zZ])
      refine tZ (i:=8) (v:=.bool false) rfl (.inl ⟨by rfl, ?_⟩) hHeld ?_
      ·(intro w hSw; (try dsimp only at hSw); go_simp; (try rfl))
      (try simp only [Act.put, zZ])
      refine tZ (i:=9) (v:=?_) rfl (.inl ⟨by rfl, ?_⟩) hHeld ?_
      rotate_left
      ·(intro w hSw; (try dsimp only at hSw); go_simp; try (with_reducible rfl))
      (try simp only [Act.put, zZ])
      refine tZ (i:=10) (v:=?_) rfl (.inl ⟨by rfl, ?_⟩) hHeld ?_
      rotate_left
      ·(intro w hSw; (try dsimp only at hSw); go_simp; try (with_reducible rfl))
      (try simp only [Act.put, zZ])
      refine tZ (i:=11) (v:=?_) rfl (.inl ⟨by rfl, ?_⟩) hHeld ?_
      rotate_left
      ·(intro w hSw; (try dsimp only at hSw); go_simp; try (with_reducible rfl))
      (try simp only [Act.put, zZ])
      refine tZ (i:=12) (v:=.bool false) rfl (.inl ⟨by rfl, ?_⟩) hHeld ?_
      ·(intro w hSw; (try dsimp only at hSw); go_simp; (try (first | exact congrArg Value.bool hl9 | simp [hl9])))
      (try simp only [Act.put, zZ])
      refine tZ (i:=13) (v:=?_) rfl (.inl ⟨by rfl, ?_⟩) hHeld ?_
      rotate_left
      ·(intro w hSw; (try dsimp only at hSw); go_simp; try (with_reducible rfl))
      (try simp only [Act.put, zZ])
      refine tZ (i:=14) (v:=?_) rfl (.inl ⟨by rfl, ?_⟩) hHeld ?_
      rotate_left
      ·(intro w hSw; (try dsimp only at hSw); go_simp; try (with_reducible rfl))
      (try simp only [Act.put, zZ])
      refine tZ (i:=15) (v:=?_) rfl (.inl ⟨by rfl, ?_⟩) hHeld ?_
      rotate_left
      ·(intro w hSw; (try dsimp only at hSw); go_simp; try (with_reducible rfl))
      (try simp only [Act.put, zZ])
      refine tZ (i:=16) (v:=.bool false) rfl (.inl ⟨by rfl, ?_⟩) hHeld ?_
      ·(intro w hSw; (try dsimp only at hSw); go_simp; (try (first | exact congrArg Value.bool hg9 | simp [hg9])))
      (try simp only [Act.put, zZ])
      refine tZ (i:=17) (v:=?_) rfl (.inl ⟨by rfl, ?_⟩) hHeld ?_
      rotate_left
      ·(intro w hSw; (try dsimp only at hSw); go_simp; try (with_reducible rfl))
      (try simp only [Act.put, zZ])
      refine wpAnyH_done (by kernel_rfl) ?_ _
      have Bd := hHeld.1
      clear hHeld
      go_wp2_with fail
      go_meet
      exact ⟨by rw [hin9]; rfl, Bd⟩
  case rest =>
   obtain ⟨rfl, hb3⟩ := hcut
   obtain ⟨w3, hw3⟩ : ∃ v, v = wc := ⟨_, rfl⟩
   rw [← hw3] at hb3 ⊢
   clear hw3
   have B3 := B2.trans (hb3.mono B2.size)
   have hs3 := hb3.size
   clear d0 d1 d2 d3 d4 dl
   have u3 : MU w3 v n c w.heap.size w1.heap.size (ucell r.us) := u2.below hb3
   have A3 : RgAt w3 gA r.id r.a r.b r.c v n c := RowAt.below A2 hb3
   have E3 : OpAt w3 gE x := RowAt.below E2 hb3
   clear u2 A2 E2
   obtain ⟨gd, hgd⟩ : ∃ b, Hid ((o1 && M1.inB now 0 1000000000) = b) := ⟨_, rfl⟩
   rw [hgd.out]
   cases gd with
   | false =>
    obtain ⟨d0, d1, d2, d3, d4⟩ := A3.cells
    have dl := A3.lt
    go_wp2_with fail
    refine wp_region_held_drew (S := fun w' => Kp w3 w') (by kernel_rfl) ?_ (fun hHeld => ?_)
    ·exact kp_zero _
    refine tZ (i:=0) (v:=?_) rfl (.inl ⟨by rfl, ?_⟩) hHeld ?_
    rotate_left
    ·(intro w hSw; (try dsimp only at hSw); go_simp; try (with_reducible rfl))
    (try simp only [Act.put, zZ])
    refine tZ (i:=2) (v:=?_) rfl (.inl ⟨by rfl, ?_⟩) hHeld ?_
    rotate_left
    ·(intro w hSw; (try dsimp only at hSw); go_simp; try (with_reducible rfl))
    (try simp only [Act.put, zZ])
    refine wpAnyH_ready (rs := [1]) (by kernel_rfl) (by simp) ?_
    refine AllReadyH.cons (o := _) rfl (fun K hK => ?_) AllReadyH.nil
    go_simp
    (have js := regionOk_impl r.id r.a r.b r.c _ _ _ r.us _ (((u3.upds hne.out HRs.out)).below hHeld.1); rw [ho1'] at js; refine js.mono ?_; clear js; rintro e wa ⟨rfl, hb⟩; go_wp2_with fail)
    refine hK.out _ _ ?_ (fun hHeld2 => ?_)
    ·exact kp_step hHeld hb
    clear hK K hHeld
    have hHeld := hHeld2
    clear hHeld2
    (try simp only [Act.put, zZ])
    refine wpAnyH_ready (rs := [3]) (by kernel_rfl) (by simp) ?_
    refine AllReadyH.cons (o := _) rfl (fun K hK => ?_) AllReadyH.nil
    go_simp
    (have js := regionOk_spec r.id r.a r.b r.c _ _ _ r.us _ (((u3.upds hne.out HRs.out)).below hHeld.1); rw [ho1'] at js; refine js.mono ?_; clear js; rintro e wb ⟨rfl, hb⟩; go_wp2_with fail)
    refine hK.out _ _ ?_ (fun hHeld2 => ?_)
    ·exact kp_step hHeld hb
    clear hK K hHeld
    have hHeld := hHeld2
    clear hHeld2
    (try simp only [Act.put, zZ])
    refine tZ (i:=4) (v:=.bool true) rfl (.inl ⟨by rfl, ?_⟩) hHeld ?_
    ·(intro w hSw; (try dsimp only at hSw); go_simp; (try (first | exact congrArg Value.bool (by simp) | simp)))
    (try simp only [Act.put, zZ])
    refine tZ (i:=5) (v:=?_) rfl (.inl ⟨by rfl, ?_⟩) hHeld ?_
    rotate_left
    ·(intro w hSw; (try dsimp only at hSw); go_simp; try (with_reducible rfl))
    (try simp only [Act.put, zZ])
    refine wpAnyH_done (by kernel_rfl) ?_ _
    have Bz := B3.trans (hHeld.1.mono B3.size)
    clear hHeld
    go_wp2_with fail
    go_ret
    exact ⟨rfl, Bz⟩
   | true =>
    have HO : Hid (M1.rOk r = true) := (by rw [ho1.out]; have := hgd.out; simp at this; exact this.1 : _ = _)
    have hid := M1.inB_true (M1.rOk_all HO.out).1
    have hid1 := hid.1
    have hid5 := hid.2
    obtain ⟨i2, hi2⟩ : ∃ i, Hid (r.id % 5 + 1 = i) := ⟨_, rfl⟩
    obtain ⟨d0, d1, d2, d3, d4⟩ := A3.cells
    have dl := A3.lt
    have hb4 : Below w3.heap.size w3 (w3.alloc (.cells #[.int .i64 (r.id % 5 + 1), .int .i64 r.a, .int .i64 r.b, .int .i64 r.c, .slice v n c] 28)) := (Below.refl _ _).alloc (Nat.le_refl _) _
    have O4 := rg_new w3 (r.id % 5 + 1) r.a r.b r.c v n c 28
    go_upto_region 7 with fail
    obtain ⟨w4, hw4⟩ : ∃ W, w3.alloc (.cells #[.int .i64 (r.id % 5 + 1), .int .i64 r.a, .int .i64 r.b, .int .i64 r.c, .slice v n c] 28) = W := ⟨_, rfl⟩
    rw [hw4] at hb4 O4 ⊢
    clear hw4
    have B4 := B3.trans (hb4.mono B3.size)
    have hs4 := hb4.size
    obtain ⟨gO, hgO⟩ : ∃ g, Hid (w3.heap.size = g) := ⟨_, rfl⟩
    have hgOA : ¬ gO = gA := by have := hgO.out; have := A3.lt; omega
    have hgOE : ¬ gO = gE := by have := hgO.out; have := E3.lt; omega
    have hgOlo : w1.heap.size ≤ gO := by have := hgO.out; omega
    have hgOw : w.heap.size ≤ gO := by omega
    have hgEw : w.heap.size ≤ gE := by omega
    rw [hgO.out, hi2.out] at O4
    rw [hgO.out]
    (try rw [hi2.out])
    clear d0 d1 d2 d3 d4 dl
    have u4 : MU w4 v n c w.heap.size w1.heap.size (ucell r.us) := u3.below hb4
    have A4 : RgAt w4 gA r.id r.a r.b r.c v n c := RowAt.below A3 hb4
    have E4 : OpAt w4 gE x := RowAt.below E3 hb4
    clear u3 A3 E3
    obtain ⟨d0, d1, d2, d3, d4⟩ := O4.cells
    have dl := O4.lt
    obtain ⟨b0, b1, b2, b3, b4⟩ := O4.frees
    have O5 : RgAt (w4.setCell ⟨gO, 3, none⟩ (.int .i64 i2)) gO i2 r.a r.b i2 v n c := rg_who O4 i2
    have A5 : RgAt (w4.setCell ⟨gO, 3, none⟩ (.int .i64 i2)) gA r.id r.a r.b r.c v n c := far1 A4 hgOA _
    have E5 : OpAt (w4.setCell ⟨gO, 3, none⟩ (.int .i64 i2)) gE x := far1 E4 hgOE _
    have u5 : MU (w4.setCell ⟨gO, 3, none⟩ (.int .i64 i2)) v n c w.heap.size w1.heap.size (ucell r.us) := mu_far (p := ⟨gO, 3, none⟩) u4 (fun q hq => mu_hi u4 hgOlo q hq) _
    have B5 : Below w.heap.size w (w4.setCell ⟨gO, 3, none⟩ (.int .i64 i2)) := bel1 B4 hgOw _
    go_upto_region 8 with fail
    obtain ⟨w5, hw5⟩ : ∃ W, (w4.setCell ⟨gO, 3, none⟩ (.int .i64 i2)) = W := ⟨_, rfl⟩
    rw [hw5] at O5 A5 E5 u5 B5 ⊢
    clear hw5 b0 b1 b2 b3 b4
    clear d0 d1 d2 d3 d4 dl
    clear A4 E4 O4 u4
    obtain ⟨e0, e1, e2, e3, e4, e5, e6⟩ := OpAt.cells E5
    have el := E5.lt
    obtain ⟨b0, b1, b2, b3, b4, b5, b6⟩ := OpAt.frees E5
    have hEA : ¬ gE = gA := fun e => hgAE e.symm
    have hEO : ¬ gE = gO := fun e => hgOE e.symm
    have E6 : OpAt (((((((w5.setCell ⟨gE, 0, none⟩ (.int .i64 3)).setCell ⟨gE, 1, none⟩ (.int .i64 x.t)).setCell ⟨gE, 2, none⟩ (.int .i64 0)).setCell ⟨gE, 3, none⟩ (.int .i64 0)).setCell ⟨gE, 4, none⟩ (.string ⟨#[]⟩)).setCell ⟨gE, 5, none⟩ (.int .i64 0)).setCell ⟨gE, 6, none⟩ (.int .i64 0)) gE ⟨3, x.t, 0, 0, ⟨#[]⟩, 0, 0⟩ := op_set7 E5 ⟨3, x.t, 0, 0, ⟨#[]⟩, 0, 0⟩
    have A6 : RgAt (((((((w5.setCell ⟨gE, 0, none⟩ (.int .i64 3)).setCell ⟨gE, 1, none⟩ (.int .i64 x.t)).setCell ⟨gE, 2, none⟩ (.int .i64 0)).setCell ⟨gE, 3, none⟩ (.int .i64 0)).setCell ⟨gE, 4, none⟩ (.string ⟨#[]⟩)).setCell ⟨gE, 5, none⟩ (.int .i64 0)).setCell ⟨gE, 6, none⟩ (.int .i64 0)) gA r.id r.a r.b r.c v n c := far7 A5 hEA _ _ _ _ _ _ _
    have O6 : RgAt (((((((w5.setCell ⟨gE, 0, none⟩ (.int .i64 3)).setCell ⟨gE, 1, none⟩ (.int .i64 x.t)).setCell ⟨gE, 2, none⟩ (.int .i64 0)).setCell ⟨gE, 3, none⟩ (.int .i64 0)).setCell ⟨gE, 4, none⟩ (.string ⟨#[]⟩)).setCell ⟨gE, 5, none⟩ (.int .i64 0)).setCell ⟨gE, 6, none⟩ (.int .i64 0)) gO i2 r.a r.b i2 v n c := far7 O5 hEO _ _ _ _ _ _ _
    have u6 : MU (((((((w5.setCell ⟨gE, 0, none⟩ (.int .i64 3)).setCell ⟨gE, 1, none⟩ (.int .i64 x.t)).setCell ⟨gE, 2, none⟩ (.int .i64 0)).setCell ⟨gE, 3, none⟩ (.int .i64 0)).setCell ⟨gE, 4, none⟩ (.string ⟨#[]⟩)).setCell ⟨gE, 5, none⟩ (.int .i64 0)).setCell ⟨gE, 6, none⟩ (.int .i64 0)) v n c w.heap.size w1.heap.size (ucell r.us) := mu_far7 u5 (fun q hq => mu_hi u5 hgElo q hq) _ _ _ _ _ _ _
    have B6 : Below w.heap.size w (((((((w5.setCell ⟨gE, 0, none⟩ (.int .i64 3)).setCell ⟨gE, 1, none⟩ (.int .i64 x.t)).setCell ⟨gE, 2, none⟩ (.int .i64 0)).setCell ⟨gE, 3, none⟩ (.int .i64 0)).setCell ⟨gE, 4, none⟩ (.string ⟨#[]⟩)).setCell ⟨gE, 5, none⟩ (.int .i64 0)).setCell ⟨gE, 6, none⟩ (.int .i64 0)) := bel_put7 B5 hgEw _ _ _ _ _ _ _
    go_upto_region 9 with fail
    obtain ⟨w6, hw6⟩ : ∃ W, (((((((w5.setCell ⟨gE, 0, none⟩ (.int .i64 3)).setCell ⟨gE, 1, none⟩ (.int .i64 x.t)).setCell ⟨gE, 2, none⟩ (.int .i64 0)).setCell ⟨gE, 3, none⟩ (.int .i64 0)).setCell ⟨gE, 4, none⟩ (.string ⟨#[]⟩)).setCell ⟨gE, 5, none⟩ (.int .i64 0)).setCell ⟨gE, 6, none⟩ (.int .i64 0)) = W := ⟨_, rfl⟩
    rw [hw6] at O6 A6 E6 u6 B6 ⊢
    clear hw6 b0 b1 b2 b3 b4 b5 b6
    clear e0 e1 e2 e3 e4 e5 e6 el
    clear A5 E5 O5 u5
    have hxm : (⟨#[]⟩ : ByteArray).size ≤ maxLen := by unfold maxLen; exact Nat.zero_le _
    obtain ⟨T1, HX1⟩ : ∃ t, Hid (M1.isR r ⟨3, x.t, 0, 0, ⟨#[]⟩, 0, 0⟩ now = t) := ⟨_, rfl⟩
    obtain ⟨U1, HU1⟩ : ∃ t, Hid (M1.isU r ⟨3, x.t, 0, 0, ⟨#[]⟩, 0, 0⟩ now = t) := ⟨_, rfl⟩
    obtain ⟨k1, HK1⟩ : ∃ k, Hid (M1.isC r ⟨3, x.t, 0, 0, ⟨#[]⟩, 0, 0⟩ now = k) := ⟨_, rfl⟩
    have hx1 : M1.setOk T1.us = true := by rw [← HX1.out]; exact M1.is_set _ _ _
    obtain ⟨q1, HQ1⟩ : ∃ q, Hid (T1.us.length = q) := ⟨_, rfl⟩
    have HT1 : Hid (∀ i, i < q1 → (M1.up T1.us i).s.size ≤ maxLen) := (by rw [← HQ1.out]; exact set_short2 hx1 : ∀ i, i < q1 → (M1.up T1.us i).s.size ≤ maxLen)
    obtain ⟨T2, HX2⟩ : ∃ t, Hid (M1.isR ⟨i2, r.a, r.b, i2, r.us⟩ ⟨3, x.t, 0, 0, ⟨#[]⟩, 0, 0⟩ now = t) := ⟨_, rfl⟩
    obtain ⟨U2, HU2⟩ : ∃ t, Hid (M1.isU ⟨i2, r.a, r.b, i2, r.us⟩ ⟨3, x.t, 0, 0, ⟨#[]⟩, 0, 0⟩ now = t) := ⟨_, rfl⟩
    obtain ⟨k2, HK2⟩ : ∃ k, Hid (M1.isC ⟨i2, r.a, r.b, i2, r.us⟩ ⟨3, x.t, 0, 0, ⟨#[]⟩, 0, 0⟩ now = k) := ⟨_, rfl⟩
    have hx2 : M1.setOk T2.us = true := by rw [← HX2.out]; exact M1.is_set _ _ _
    obtain ⟨q2, HQ2⟩ : ∃ q, Hid (T2.us.length = q) := ⟨_, rfl⟩
    have HT2 : Hid (∀ i, i < q2 → (M1.up T2.us i).s.size ≤ maxLen) := (by rw [← HQ2.out]; exact set_short2 hx2 : ∀ i, i < q2 → (M1.up T2.us i).s.size ≤ maxLen)
    obtain ⟨d0, d1, d2, d3, d4⟩ := A6.cells
    have dl := A6.lt
    obtain ⟨e0, e1, e2, e3, e4, e5, e6⟩ := OpAt.cells E6
    have el := E6.lt
    go_wp2_with fail
    have js := issued_impl s0 s1 s2 s3 s4 r ⟨3, x.t, 0, 0, ⟨#[]⟩, 0, 0⟩ now _ _ _ _ (S.below B6) (u6.upds hne.out HRs.out) hxm
    unfold IsS RgD at js
    rw [HX1.out, HU1.out, HK1.out, HQ1.out] at js
    refine js.mono ?_
    clear js
    rintro e w7 ⟨⟨_, rfl, aN, cN, rfl, mN⟩, hb7⟩
    have B7 := B6.trans (hb7.mono B6.size)
    have hs7 := hb7.size
    have xN7 := mN.upds HQ1.out HT1.out
    have u7 : MU w7 v n c w.heap.size w1.heap.size (ucell r.us) := u6.below hb7
    have A7 : RgAt w7 gA r.id r.a r.b r.c v n c := RowAt.below A6 hb7
    have E7 : OpAt w7 gE ⟨3, x.t, 0, 0, ⟨#[]⟩, 0, 0⟩ := RowAt.below E6 hb7
    have O7 : RgAt w7 gO i2 r.a r.b i2 v n c := RowAt.below O6 hb7
    clear u6 A6 E6 O6
    clear d0 d1 d2 d3 d4 dl
    clear e0 e1 e2 e3 e4 e5 e6 el
    have hb8 : Below w7.heap.size w7 ((w7.alloc (.cells #[.int .i64 T1.id, .int .i64 T1.a, .int .i64 T1.b, .int .i64 T1.c, .slice aN q1 cN] 28)).alloc (.cells #[.int .i64 U1.dr, .int .i64 U1.dn, .int .i64 U1.sw, .int .i64 U1.sc, .int .i64 U1.sr, .int .i64 U1.k, .int .i64 U1.tr, .int .i64 U1.id, .int .i64 U1.pa, .string U1.s, .int .i64 U1.st, .int .i64 U1.en, .int .i64 U1.lv] 38)) := ((Below.refl _ _).alloc (Nat.le_refl _) _).alloc (by simp <;> omega) _
    have N8 : RgAt ((w7.alloc (.cells #[.int .i64 T1.id, .int .i64 T1.a, .int .i64 T1.b, .int .i64 T1.c, .slice aN q1 cN] 28)).alloc (.cells #[.int .i64 U1.dr, .int .i64 U1.dn, .int .i64 U1.sw, .int .i64 U1.sc, .int .i64 U1.sr, .int .i64 U1.k, .int .i64 U1.tr, .int .i64 U1.id, .int .i64 U1.pa, .string U1.s, .int .i64 U1.st, .int .i64 U1.en, .int .i64 U1.lv] 38)) w7.heap.size T1.id T1.a T1.b T1.c aN q1 cN := (rg_new w7 T1.id T1.a T1.b T1.c aN q1 cN 28).alloc _
    have V8 : RowAt ((w7.alloc (.cells #[.int .i64 T1.id, .int .i64 T1.a, .int .i64 T1.b, .int .i64 T1.c, .slice aN q1 cN] 28)).alloc (.cells #[.int .i64 U1.dr, .int .i64 U1.dn, .int .i64 U1.sw, .int .i64 U1.sc, .int .i64 U1.sr, .int .i64 U1.k, .int .i64 U1.tr, .int .i64 U1.id, .int .i64 U1.pa, .string U1.s, .int .i64 U1.st, .int .i64 U1.en, .int .i64 U1.lv] 38)) (w7.alloc (.cells #[.int .i64 T1.id, .int .i64 T1.a, .int .i64 T1.b, .int .i64 T1.c, .slice aN q1 cN] 28)).heap.size 13 (uq U1) := uq_new (w7.alloc (.cells #[.int .i64 T1.id, .int .i64 T1.a, .int .i64 T1.b, .int .i64 T1.c, .slice aN q1 cN] 28)) U1 38
    rw [show (w7.alloc (.cells #[.int .i64 T1.id, .int .i64 T1.a, .int .i64 T1.b, .int .i64 T1.c, .slice aN q1 cN] 28)).heap.size = w7.heap.size + 1 by simp] at V8
    go_upto_region 10 with fail
    obtain ⟨w8, hw8⟩ : ∃ W, ((w7.alloc (.cells #[.int .i64 T1.id, .int .i64 T1.a, .int .i64 T1.b, .int .i64 T1.c, .slice aN q1 cN] 28)).alloc (.cells #[.int .i64 U1.dr, .int .i64 U1.dn, .int .i64 U1.sw, .int .i64 U1.sc, .int .i64 U1.sr, .int .i64 U1.k, .int .i64 U1.tr, .int .i64 U1.id, .int .i64 U1.pa, .string U1.s, .int .i64 U1.st, .int .i64 U1.en, .int .i64 U1.lv] 38)) = W := ⟨_, rfl⟩
    rw [hw8] at hb8 N8 V8 ⊢
    clear hw8
    have B8 := B7.trans (hb8.mono B7.size)
    have hs8 := hb8.size
    obtain ⟨gV, hgV⟩ : ∃ g, Hid (w7.heap.size + 1 = g) := ⟨_, rfl⟩
    rw [hgV.out] at V8 ⊢
    obtain ⟨gN, hgN⟩ : ∃ g, Hid (w7.heap.size = g) := ⟨_, rfl⟩
    rw [hgN.out] at N8 ⊢
    have u8 : MU w8 v n c w.heap.size w1.heap.size (ucell r.us) := u7.below hb8
    have A8 : RgAt w8 gA r.id r.a r.b r.c v n c := RowAt.below A7 hb8
    have E8 : OpAt w8 gE ⟨3, x.t, 0, 0, ⟨#[]⟩, 0, 0⟩ := RowAt.below E7 hb8
    have O8 : RgAt w8 gO i2 r.a r.b i2 v n c := RowAt.below O7 hb8
    have xN8 : IsUpds w8 aN q1 cN T1.us := xN7.below hb8
    clear u7 A7 E7 O7 xN7
    obtain ⟨d0, d1, d2, d3, d4⟩ := O8.cells
    have dl := O8.lt
    obtain ⟨e0, e1, e2, e3, e4, e5, e6⟩ := OpAt.cells E8
    have el := E8.lt
    go_wp2_with fail
    have js := issued_impl s0 s1 s2 s3 s4 ⟨i2, r.a, r.b, i2, r.us⟩ ⟨3, x.t, 0, 0, ⟨#[]⟩, 0, 0⟩ now _ _ _ _ (S.below B8) (u8.upds hne.out HRs.out) hxm
    unfold IsS RgD at js
    rw [HX2.out, HU2.out, HK2.out, HQ2.out] at js
    refine js.mono ?_
    clear js
    rintro e w9 ⟨⟨_, rfl, aM, cM, rfl, mM⟩, hb9⟩
    have B9 := B8.trans (hb9.mono B8.size)
    have hs9 := hb9.size
    have xM9 := mM.upds HQ2.out HT2.out
    have u9 : MU w9 v n c w.heap.size w1.heap.size (ucell r.us) := u8.below hb9
    have A9 : RgAt w9 gA r.id r.a r.b r.c v n c := RowAt.below A8 hb9
    have E9 : OpAt w9 gE ⟨3, x.t, 0, 0, ⟨#[]⟩, 0, 0⟩ := RowAt.below E8 hb9
    have O9 : RgAt w9 gO i2 r.a r.b i2 v n c := RowAt.below O8 hb9
    have xN9 : IsUpds w9 aN q1 cN T1.us := xN8.below hb9
    have N9 : RgAt w9 gN T1.id T1.a T1.b T1.c aN q1 cN := RowAt.below N8 hb9
    have V9 : RowAt w9 gV 13 (uq U1) := RowAt.below V8 hb9
    clear u8 A8 E8 O8 xN8 N8 V8
    clear d0 d1 d2 d3 d4 dl
    clear e0 e1 e2 e3 e4 e5 e6 el
    have hb10 : Below w9.heap.size w9 ((w9.alloc (.cells #[.int .i64 T2.id, .int .i64 T2.a, .int .i64 T2.b, .int .i64 T2.c, .slice aM q2 cM] 28)).alloc (.cells #[.int .i64 U2.dr, .int .i64 U2.dn, .int .i64 U2.sw, .int .i64 U2.sc, .int .i64 U2.sr, .int .i64 U2.k, .int .i64 U2.tr, .int .i64 U2.id, .int .i64 U2.pa, .string U2.s, .int .i64 U2.st, .int .i64 U2.en, .int .i64 U2.lv] 38)) := ((Below.refl _ _).alloc (Nat.le_refl _) _).alloc (by simp <;> omega) _
    have M10 : RgAt ((w9.alloc (.cells #[.int .i64 T2.id, .int .i64 T2.a, .int .i64 T2.b, .int .i64 T2.c, .slice aM q2 cM] 28)).alloc (.cells #[.int .i64 U2.dr, .int .i64 U2.dn, .int .i64 U2.sw, .int .i64 U2.sc, .int .i64 U2.sr, .int .i64 U2.k, .int .i64 U2.tr, .int .i64 U2.id, .int .i64 U2.pa, .string U2.s, .int .i64 U2.st, .int .i64 U2.en, .int .i64 U2.lv] 38)) w9.heap.size T2.id T2.a T2.b T2.c aM q2 cM := (rg_new w9 T2.id T2.a T2.b T2.c aM q2 cM 28).alloc _
    have Y10 : RowAt ((w9.alloc (.cells #[.int .i64 T2.id, .int .i64 T2.a, .int .i64 T2.b, .int .i64 T2.c, .slice aM q2 cM] 28)).alloc (.cells #[.int .i64 U2.dr, .int .i64 U2.dn, .int .i64 U2.sw, .int .i64 U2.sc, .int .i64 U2.sr, .int .i64 U2.k, .int .i64 U2.tr, .int .i64 U2.id, .int .i64 U2.pa, .string U2.s, .int .i64 U2.st, .int .i64 U2.en, .int .i64 U2.lv] 38)) (w9.alloc (.cells #[.int .i64 T2.id, .int .i64 T2.a, .int .i64 T2.b, .int .i64 T2.c, .slice aM q2 cM] 28)).heap.size 13 (uq U2) := uq_new (w9.alloc (.cells #[.int .i64 T2.id, .int .i64 T2.a, .int .i64 T2.b, .int .i64 T2.c, .slice aM q2 cM] 28)) U2 38
    rw [show (w9.alloc (.cells #[.int .i64 T2.id, .int .i64 T2.a, .int .i64 T2.b, .int .i64 T2.c, .slice aM q2 cM] 28)).heap.size = w9.heap.size + 1 by simp] at Y10
    go_upto_region 11 with fail
    obtain ⟨w10, hw10⟩ : ∃ W, ((w9.alloc (.cells #[.int .i64 T2.id, .int .i64 T2.a, .int .i64 T2.b, .int .i64 T2.c, .slice aM q2 cM] 28)).alloc (.cells #[.int .i64 U2.dr, .int .i64 U2.dn, .int .i64 U2.sw, .int .i64 U2.sc, .int .i64 U2.sr, .int .i64 U2.k, .int .i64 U2.tr, .int .i64 U2.id, .int .i64 U2.pa, .string U2.s, .int .i64 U2.st, .int .i64 U2.en, .int .i64 U2.lv] 38)) = W := ⟨_, rfl⟩
    rw [hw10] at hb10 M10 Y10 ⊢
    clear hw10
    have B10 := B9.trans (hb10.mono B9.size)
    have hs10 := hb10.size
    obtain ⟨gY, hgY⟩ : ∃ g, Hid (w9.heap.size + 1 = g) := ⟨_, rfl⟩
    rw [hgY.out] at Y10 ⊢
    obtain ⟨gM, hgM⟩ : ∃ g, Hid (w9.heap.size = g) := ⟨_, rfl⟩
    rw [hgM.out] at M10 ⊢
    have u10 : MU w10 v n c w.heap.size w1.heap.size (ucell r.us) := u9.below hb10
    have A10 : RgAt w10 gA r.id r.a r.b r.c v n c := RowAt.below A9 hb10
    have E10 : OpAt w10 gE ⟨3, x.t, 0, 0, ⟨#[]⟩, 0, 0⟩ := RowAt.below E9 hb10
    have O10 : RgAt w10 gO i2 r.a r.b i2 v n c := RowAt.below O9 hb10
    have xN10 : IsUpds w10 aN q1 cN T1.us := xN9.below hb10
    have N10 : RgAt w10 gN T1.id T1.a T1.b T1.c aN q1 cN := RowAt.below N9 hb10
    have V10 : RowAt w10 gV 13 (uq U1) := RowAt.below V9 hb10
    have xM10 : IsUpds w10 aM q2 cM T2.us := xM9.below hb10
    clear u9 A9 E9 O9 xN9 N9 V9 xM9
    obtain ⟨d0, d1, d2, d3, d4⟩ := A10.cells
    have dl := A10.lt
    obtain ⟨e0, e1, e2, e3, e4, e5, e6⟩ := OpAt.cells E10
    have el := E10.lt
    go_wp2_with fail
    have js := issued_spec r ⟨3, x.t, 0, 0, ⟨#[]⟩, 0, 0⟩ now _ _ _ _ (u10.upds hne.out HRs.out) hxm
    unfold IsS RgD at js
    rw [HX1.out, HU1.out, HK1.out, HQ1.out] at js
    refine js.mono ?_
    clear js
    rintro e w11 ⟨⟨_, rfl, aW, cW, rfl, mW⟩, hb11⟩
    have B11 := B10.trans (hb11.mono B10.size)
    have hs11 := hb11.size
    have xW11 := mW.upds HQ1.out HT1.out
    have u11 : MU w11 v n c w.heap.size w1.heap.size (ucell r.us) := u10.below hb11
    have A11 : RgAt w11 gA r.id r.a r.b r.c v n c := RowAt.below A10 hb11
    have E11 : OpAt w11 gE ⟨3, x.t, 0, 0, ⟨#[]⟩, 0, 0⟩ := RowAt.below E10 hb11
    have O11 : RgAt w11 gO i2 r.a r.b i2 v n c := RowAt.below O10 hb11
    have xN11 : IsUpds w11 aN q1 cN T1.us := xN10.below hb11
    have N11 : RgAt w11 gN T1.id T1.a T1.b T1.c aN q1 cN := RowAt.below N10 hb11
    have V11 : RowAt w11 gV 13 (uq U1) := RowAt.below V10 hb11
    have xM11 : IsUpds w11 aM q2 cM T2.us := xM10.below hb11
    have M11 : RgAt w11 gM T2.id T2.a T2.b T2.c aM q2 cM := RowAt.below M10 hb11
    have Y11 : RowAt w11 gY 13 (uq U2) := RowAt.below Y10 hb11
    clear u10 A10 E10 O10 xN10 N10 V10 xM10 M10 Y10
    clear d0 d1 d2 d3 d4 dl
    clear e0 e1 e2 e3 e4 e5 e6 el
    have hb12 : Below w11.heap.size w11 ((w11.alloc (.cells #[.int .i64 T1.id, .int .i64 T1.a, .int .i64 T1.b, .int .i64 T1.c, .slice aW q1 cW] 28)).alloc (.cells #[.int .i64 U1.dr, .int .i64 U1.dn, .int .i64 U1.sw, .int .i64 U1.sc, .int .i64 U1.sr, .int .i64 U1.k, .int .i64 U1.tr, .int .i64 U1.id, .int .i64 U1.pa, .string U1.s, .int .i64 U1.st, .int .i64 U1.en, .int .i64 U1.lv] 38)) := ((Below.refl _ _).alloc (Nat.le_refl _) _).alloc (by simp <;> omega) _
    have W12 : RgAt ((w11.alloc (.cells #[.int .i64 T1.id, .int .i64 T1.a, .int .i64 T1.b, .int .i64 T1.c, .slice aW q1 cW] 28)).alloc (.cells #[.int .i64 U1.dr, .int .i64 U1.dn, .int .i64 U1.sw, .int .i64 U1.sc, .int .i64 U1.sr, .int .i64 U1.k, .int .i64 U1.tr, .int .i64 U1.id, .int .i64 U1.pa, .string U1.s, .int .i64 U1.st, .int .i64 U1.en, .int .i64 U1.lv] 38)) w11.heap.size T1.id T1.a T1.b T1.c aW q1 cW := (rg_new w11 T1.id T1.a T1.b T1.c aW q1 cW 28).alloc _
    have Z12 : RowAt ((w11.alloc (.cells #[.int .i64 T1.id, .int .i64 T1.a, .int .i64 T1.b, .int .i64 T1.c, .slice aW q1 cW] 28)).alloc (.cells #[.int .i64 U1.dr, .int .i64 U1.dn, .int .i64 U1.sw, .int .i64 U1.sc, .int .i64 U1.sr, .int .i64 U1.k, .int .i64 U1.tr, .int .i64 U1.id, .int .i64 U1.pa, .string U1.s, .int .i64 U1.st, .int .i64 U1.en, .int .i64 U1.lv] 38)) (w11.alloc (.cells #[.int .i64 T1.id, .int .i64 T1.a, .int .i64 T1.b, .int .i64 T1.c, .slice aW q1 cW] 28)).heap.size 13 (uq U1) := uq_new (w11.alloc (.cells #[.int .i64 T1.id, .int .i64 T1.a, .int .i64 T1.b, .int .i64 T1.c, .slice aW q1 cW] 28)) U1 38
    rw [show (w11.alloc (.cells #[.int .i64 T1.id, .int .i64 T1.a, .int .i64 T1.b, .int .i64 T1.c, .slice aW q1 cW] 28)).heap.size = w11.heap.size + 1 by simp] at Z12
    go_upto_region 12 with fail
    obtain ⟨w12, hw12⟩ : ∃ W, ((w11.alloc (.cells #[.int .i64 T1.id, .int .i64 T1.a, .int .i64 T1.b, .int .i64 T1.c, .slice aW q1 cW] 28)).alloc (.cells #[.int .i64 U1.dr, .int .i64 U1.dn, .int .i64 U1.sw, .int .i64 U1.sc, .int .i64 U1.sr, .int .i64 U1.k, .int .i64 U1.tr, .int .i64 U1.id, .int .i64 U1.pa, .string U1.s, .int .i64 U1.st, .int .i64 U1.en, .int .i64 U1.lv] 38)) = W := ⟨_, rfl⟩
    rw [hw12] at hb12 W12 Z12 ⊢
    clear hw12
    have B12 := B11.trans (hb12.mono B11.size)
    have hs12 := hb12.size
    obtain ⟨gZ, hgZ⟩ : ∃ g, Hid (w11.heap.size + 1 = g) := ⟨_, rfl⟩
    rw [hgZ.out] at Z12 ⊢
    obtain ⟨gW, hgW⟩ : ∃ g, Hid (w11.heap.size = g) := ⟨_, rfl⟩
    rw [hgW.out] at W12 ⊢
    have u12 : MU w12 v n c w.heap.size w1.heap.size (ucell r.us) := u11.below hb12
    have A12 : RgAt w12 gA r.id r.a r.b r.c v n c := RowAt.below A11 hb12
    have E12 : OpAt w12 gE ⟨3, x.t, 0, 0, ⟨#[]⟩, 0, 0⟩ := RowAt.below E11 hb12
    have O12 : RgAt w12 gO i2 r.a r.b i2 v n c := RowAt.below O11 hb12
    have xN12 : IsUpds w12 aN q1 cN T1.us := xN11.below hb12
    have N12 : RgAt w12 gN T1.id T1.a T1.b T1.c aN q1 cN := RowAt.below N11 hb12
    have V12 : RowAt w12 gV 13 (uq U1) := RowAt.below V11 hb12
    have xM12 : IsUpds w12 aM q2 cM T2.us := xM11.below hb12
    have M12 : RgAt w12 gM T2.id T2.a T2.b T2.c aM q2 cM := RowAt.below M11 hb12
    have Y12 : RowAt w12 gY 13 (uq U2) := RowAt.below Y11 hb12
    have xW12 : IsUpds w12 aW q1 cW T1.us := xW11.below hb12
    clear u11 A11 E11 O11 xN11 N11 V11 xM11 M11 Y11 xW11
    have hkk : (k1 != k1) = false := by simp
    have hkk2 : (k1 == k1) = true := by simp
    by_cases h10 : k1 = 0
    ·have f1 : (k1 != 0) = false := by simp [h10]
     by_cases h20 : k2 = 0
     ·have f2 : (k2 != 0) = false := by simp [h20]
      have HJ : Hid (M1.jOk T1.us T2.us = true → U1.lv = U2.lv ∧ M1.levelOf (M1.jL T1.us T2.us) x.t = U1.lv ∧ M1.visB (M1.jL T1.us T2.us) x.t = false) := (fun hj => by
       rw [← HX1.out, ← HX2.out] at hj ⊢
       rw [← HU1.out, ← HU2.out]
       exact M1.Vw.same_ops (X := ⟨3, x.t, 0, 0, ⟨#[]⟩, 0, 0⟩) rfl rfl (by rw [HK1.out]; exact h10) (by rw [HK2.out]; exact h20) hj : _ → _)
      clear h10 h20
      obtain ⟨JL, hJL⟩ : ∃ J, Hid (M1.jL T1.us T2.us = J) := ⟨_, rfl⟩
      obtain ⟨jk, hjk⟩ : ∃ b, Hid (M1.jOk T1.us T2.us = b) := ⟨_, rfl⟩
      obtain ⟨qj, HQJ⟩ : ∃ q, Hid (JL.length = q) := ⟨_, rfl⟩
      rw [hjk.out, hJL.out] at HJ
      obtain ⟨d0, d1, d2, d3, d4⟩ := N12.cells
      have dl := N12.lt
      obtain ⟨e0, e1, e2, e3, e4⟩ := M12.cells
      have el := M12.lt
      go_wp2_with fail
      have js := joined_impl _ _ _ _ _ _ T1.us T2.us _ xN12 xM12
      unfold Jd at js
      rw [hJL.out, hjk.out, HQJ.out] at js
      refine js.mono ?_
      clear js
      rintro e w13 ⟨⟨aJ, cJ, rfl, mJ⟩, hb13⟩
      have B13 := B12.trans (hb13.mono B12.size)
      have hs13 := hb13.size
      have u13 : MU w13 v n c w.heap.size w1.heap.size (ucell r.us) := u12.below hb13
      have A13 : RgAt w13 gA r.id r.a r.b r.c v n c := RowAt.below A12 hb13
      have E13 : OpAt w13 gE ⟨3, x.t, 0, 0, ⟨#[]⟩, 0, 0⟩ := RowAt.below E12 hb13
      have O13 : RgAt w13 gO i2 r.a r.b i2 v n c := RowAt.below O12 hb13
      have xN13 : IsUpds w13 aN q1 cN T1.us := xN12.below hb13
      have N13 : RgAt w13 gN T1.id T1.a T1.b T1.c aN q1 cN := RowAt.below N12 hb13
      have V13 : RowAt w13 gV 13 (uq U1) := RowAt.below V12 hb13
      have xM13 : IsUpds w13 aM q2 cM T2.us := xM12.below hb13
      have M13 : RgAt w13 gM T2.id T2.a T2.b T2.c aM q2 cM := RowAt.below M12 hb13
      have Y13 : RowAt w13 gY 13 (uq U2) := RowAt.below Y12 hb13
      have xW13 : IsUpds w13 aW q1 cW T1.us := xW12.below hb13
      have W13 : RgAt w13 gW T1.id T1.a T1.b T1.c aW q1 cW := RowAt.below W12 hb13
      have Z13 : RowAt w13 gZ 13 (uq U1) := RowAt.below Z12 hb13
      clear u12 A12 E12 O12 xN12 N12 V12 xM12 M12 Y12 xW12 W12 Z12
      clear d0 d1 d2 d3 d4 dl
      clear e0 e1 e2 e3 e4 el
      cases jk with
      | false =>
       go_wp2_with fail
       refine wp_region_held_drew (S := fun w' => Kp w13 w') (by kernel_rfl) ?_ (fun hHeld => ?_)
       ·exact kp_zero _
       refine tZ (i:=0) (v:=?_) rfl (.inl ⟨by rfl, ?_⟩) hHeld ?_
       rotate_left
       ·(intro w hSw; (try dsimp only at hSw); go_simp; try (with_reducible rfl))
       (try simp only [Act.put, zZ])
       refine tZ (i:=1) (v:=?_) rfl (.inl ⟨by rfl, ?_⟩) hHeld ?_
       rotate_left
       ·(intro w hSw; (try dsimp only at hSw); go_simp; try (with_reducible rfl))
       (try simp only [Act.put, zZ])
       refine tZ (i:=2) (v:=?_) rfl (.inl ⟨by rfl, ?_⟩) hHeld ?_
       rotate_left
       ·(intro w hSw; (try dsimp only at hSw); go_simp; try (with_reducible rfl))
       (try simp only [Act.put, zZ])
       refine tZ (i:=3) (v:=undef) rfl (.inr ⟨by rfl, rfl⟩) hHeld ?_
       (try simp only [Act.put, zZ])
       refine tZ (i:=4) (v:=undef) rfl (.inr ⟨by rfl, rfl⟩) hHeld ?_
       (try simp only [Act.put, zZ])
       refine tZ (i:=5) (v:=undef) rfl (.inr ⟨by rfl, rfl⟩) hHeld ?_
       (try simp only [Act.put, zZ])
       refine tZ (i:=6) (v:=undef) rfl (.inr ⟨by rfl, rfl⟩) hHeld ?_
       (try simp only [Act.put, zZ])
       refine tZ (i:=7) (v:=undef) rfl (.inr ⟨by rfl, rfl⟩) hHeld ?_
       (try simp only [Act.put, zZ])
       refine tZ (i:=8) (v:=undef) rfl (.inr ⟨by rfl, rfl⟩) hHeld ?_
       (try simp only [Act.put, zZ])
       refine tZ (i:=9) (v:=undef) rfl (.inr ⟨by rfl, rfl⟩) hHeld ?_
       (try simp only [Act.put, zZ])
       refine tZ (i:=10) (v:=undef) rfl (.inr ⟨by rfl, rfl⟩) hHeld ?_
       (try simp only [Act.put, zZ])
       refine tZ (i:=11) (v:=undef) rfl (.inr ⟨by rfl, rfl⟩) hHeld ?_
       (try simp only [Act.put, zZ])
       refine tZ (i:=12) (v:=undef) rfl (.inr ⟨by rfl, rfl⟩) hHeld ?_
       (try simp only [Act.put, zZ])
       refine tZ (i:=13) (v:=undef) rfl (.inr ⟨by rfl, rfl⟩) hHeld ?_
       (try simp only [Act.put, zZ])
       refine tZ (i:=14) (v:=undef) rfl (.inr ⟨by rfl, rfl⟩) hHeld ?_
       (try simp only [Act.put, zZ])
       refine tZ (i:=15) (v:=undef) rfl (.inr ⟨by rfl, rfl⟩) hHeld ?_
       (try simp only [Act.put, zZ])
       refine tZ (i:=16) (v:=undef) rfl (.inr ⟨by rfl, rfl⟩) hHeld ?_
       (try simp only [Act.put, zZ])
       refine tZ (i:=17) (v:=undef) rfl (.inr ⟨by rfl, rfl⟩) hHeld ?_
       (try simp only [Act.put, zZ])
       refine tZ (i:=18) (v:=undef) rfl (.inr ⟨by rfl, rfl⟩) hHeld ?_
       (try simp only [Act.put, zZ])
       refine tZ (i:=19) (v:=undef) rfl (.inr ⟨by rfl, rfl⟩) hHeld ?_
       (try simp only [Act.put, zZ])
       refine tZ (i:=20) (v:=undef) rfl (.inr ⟨by rfl, rfl⟩) hHeld ?_
       (try simp only [Act.put, zZ])
       refine tZ (i:=21) (v:=undef) rfl (.inr ⟨by rfl, rfl⟩) hHeld ?_
       (try simp only [Act.put, zZ])
       refine tZ (i:=22) (v:=undef) rfl (.inr ⟨by rfl, rfl⟩) hHeld ?_
       (try simp only [Act.put, zZ])
       refine tZ (i:=23) (v:=undef) rfl (.inr ⟨by rfl, rfl⟩) hHeld ?_
       (try simp only [Act.put, zZ])
       refine tZ (i:=24) (v:=?_) rfl (.inl ⟨by rfl, ?_⟩) hHeld ?_
       rotate_left
       ·(intro w hSw; (try dsimp only at hSw); go_simp; try (with_reducible rfl))
       (try simp only [Act.put, zZ])
       refine tZ (i:=25) (v:=?_) rfl (.inl ⟨by rfl, ?_⟩) hHeld ?_
       rotate_left
       ·(intro w hSw; (try dsimp only at hSw); go_simp; try (with_reducible rfl))
       (try simp only [Act.put, zZ])
       refine wpAnyH_done (by kernel_rfl) ?_ _
       have Bz := B13.trans (hHeld.1.mono B13.size)
       clear hHeld
       go_wp2_with fail
       go_ret
       exact ⟨rfl, Bz⟩
      | true =>
       obtain ⟨j1, j2, j3⟩ := HJ.out rfl
       have j1 : Hid (U1.lv = U2.lv) := j1
       have j2 : Hid (M1.levelOf JL x.t = U1.lv) := j2
       have j3 : Hid (M1.visB JL x.t = false) := j3
       have HTJ : Hid (∀ i, i < qj → (M1.up JL i).s.size ≤ maxLen) := fun i hi => by
        rw [← HQJ.out] at hi
        have hin := M1.up_mem hi
        rw [← hJL.out] at hin
        have hx9 : M1.up JL i ∈ T1.us ∨ M1.up JL i ∈ T2.us := by rw [← hJL.out]; exact (M1.jL_mem hjk.out _).1 hin
        rcases hx9 with q | q
        ·obtain ⟨j, hj, e⟩ := M1.mem_up q
         rw [← e]; exact HT1.out j (by rw [← HQ1.out]; exact hj)
        ·obtain ⟨j, hj, e⟩ := M1.mem_up q
         rw [← e]; exact HT2.out j (by rw [← HQ2.out]; exact hj)
       have xJ := mJ.upds HQJ.out HTJ.out
       have b1 : (U1.lv == U2.lv) = true := by simp [j1.out]
       have b2 : (U1.lv == U1.lv) = true := by simp
       obtain ⟨va0, va1, va2, va3, va4, va5, va6, va7, va8, va9, va10, va11, va12⟩ := uq_cells V13
       have val := V13.lt
       obtain ⟨ya0, ya1, ya2, ya3, ya4, ya5, ya6, ya7, ya8, ya9, ya10, ya11, ya12⟩ := uq_cells Y13
       have yal := Y13.lt
       obtain ⟨e0, e1, e2, e3, e4, e5, e6⟩ := OpAt.cells E13
       have el := E13.lt
       go_wp2_with fail
       refine wp_region_held_drew (S := fun w' => Kp w13 w') (by kernel_rfl) ?_ (fun hHeld => ?_)
       ·exact kp_zero _
       refine tZ (i:=0) (v:=?_) rfl (.inl ⟨by rfl, ?_⟩) hHeld ?_
       rotate_left
       ·(intro w hSw; (try dsimp only at hSw); go_simp; try (with_reducible rfl))
       (try simp only [Act.put, zZ])
       refine tZ (i:=1) (v:=?_) rfl (.inl ⟨by rfl, ?_⟩) hHeld ?_
       rotate_left
       ·(intro w hSw; (try dsimp only at hSw); go_simp; try (with_reducible rfl))
       (try simp only [Act.put, zZ])
       refine tZ (i:=2) (v:=?_) rfl (.inl ⟨by rfl, ?_⟩) hHeld ?_
       rotate_left
       ·(intro w hSw; (try dsimp only at hSw); go_simp; try (with_reducible rfl))
       (try simp only [Act.put, zZ])
       refine tZ (i:=3) (v:=?_) rfl (.inl ⟨by rfl, ?_⟩) hHeld ?_
       rotate_left
       ·(intro w hSw; (try dsimp only at hSw); go_simp; try (with_reducible rfl))
       (try simp only [Act.put, zZ])
       refine tZ (i:=4) (v:=?_) rfl (.inl ⟨by rfl, ?_⟩) hHeld ?_
       rotate_left
       ·(intro w hSw; (try dsimp only at hSw); go_simp; try (with_reducible rfl))
       (try simp only [Act.put, zZ])
       refine tZ (i:=5) (v:=?_) rfl (.inl ⟨by rfl, ?_⟩) hHeld ?_
       rotate_left
       ·(intro w hSw; (try dsimp only at hSw); go_simp; try (with_reducible rfl))
       (try simp only [Act.put, zZ])
       refine tZ (i:=6) (v:=?_) rfl (.inl ⟨by rfl, ?_⟩) hHeld ?_
       rotate_left
       ·(intro w hSw; (try dsimp only at hSw); go_simp; try (with_reducible rfl))
       (try simp only [Act.put, zZ])
       refine tZ (i:=7) (v:=.bool true) rfl (.inl ⟨by rfl, ?_⟩) hHeld ?_
       ·(intro w hSw; (try dsimp only at hSw); go_simp; (try (first | exact congrArg Value.bool b1 | simp [b1])))
       (try simp only [Act.put, zZ])
       refine tZ (i:=8) (v:=?_) rfl (.inl ⟨by rfl, ?_⟩) hHeld ?_
       rotate_left
       ·(intro w hSw; (try dsimp only at hSw); go_simp; try (with_reducible rfl))
       (try simp only [Act.put, zZ])
       refine tZ (i:=9) (v:=?_) rfl (.inl ⟨by rfl, ?_⟩) hHeld ?_
       rotate_left
       ·(intro w hSw; (try dsimp only at hSw); go_simp; try (with_reducible rfl))
       (try simp only [Act.put, zZ])
       refine tZ (i:=10) (v:=?_) rfl (.inl ⟨by rfl, ?_⟩) hHeld ?_
       rotate_left
       ·(intro w hSw; (try dsimp only at hSw); go_simp; try (with_reducible rfl))
       (try simp only [Act.put, zZ])
       refine tZ (i:=11) (v:=?_) rfl (.inl ⟨by rfl, ?_⟩) hHeld ?_
       rotate_left
       ·(intro w hSw; (try dsimp only at hSw); go_simp; try (with_reducible rfl))
       (try simp only [Act.put, zZ])
       refine tZ (i:=13) (v:=?_) rfl (.inl ⟨by rfl, ?_⟩) hHeld ?_
       rotate_left
       ·(intro w hSw; (try dsimp only at hSw); go_simp; try (with_reducible rfl))
       (try simp only [Act.put, zZ])
       refine tZ (i:=14) (v:=?_) rfl (.inl ⟨by rfl, ?_⟩) hHeld ?_
       rotate_left
       ·(intro w hSw; (try dsimp only at hSw); go_simp; try (with_reducible rfl))
       (try simp only [Act.put, zZ])
       refine wpAnyH_ready (rs := [12]) (by kernel_rfl) (by simp) ?_
       refine AllReadyH.cons (o := _) rfl (fun K hK => ?_) AllReadyH.nil
       go_simp
       (have js := levelOf_impl _ _ _ JL x.t _ (xJ.below hHeld.1); rw [j2.out] at js; refine js.mono ?_; clear js; rintro e wa ⟨rfl, hb⟩; go_wp2_with fail)
       refine hK.out _ _ ?_ (fun hHeld2 => ?_)
       ·exact kp_step hHeld hb
       clear hK K hHeld
       have hHeld := hHeld2
       clear hHeld2
       (try simp only [Act.put, zZ])
       refine tZ (i:=15) (v:=.bool true) rfl (.inl ⟨by rfl, ?_⟩) hHeld ?_
       ·(intro w hSw; (try dsimp only at hSw); go_simp; (try (first | exact congrArg Value.bool b2 | simp [b2])))
       (try simp only [Act.put, zZ])
       refine tZ (i:=16) (v:=?_) rfl (.inl ⟨by rfl, ?_⟩) hHeld ?_
       rotate_left
       ·(intro w hSw; (try dsimp only at hSw); go_simp; try (with_reducible rfl))
       (try simp only [Act.put, zZ])
       refine tZ (i:=17) (v:=?_) rfl (.inl ⟨by rfl, ?_⟩) hHeld ?_
       rotate_left
       ·(intro w hSw; (try dsimp only at hSw); go_simp; try (with_reducible rfl))
       (try simp only [Act.put, zZ])
       refine tZ (i:=18) (v:=?_) rfl (.inl ⟨by rfl, ?_⟩) hHeld ?_
       rotate_left
       ·(intro w hSw; (try dsimp only at hSw); go_simp; try (with_reducible rfl))
       (try simp only [Act.put, zZ])
       refine tZ (i:=19) (v:=?_) rfl (.inl ⟨by rfl, ?_⟩) hHeld ?_
       rotate_left
       ·(intro w hSw; (try dsimp only at hSw); go_simp; try (with_reducible rfl))
       (try simp only [Act.put, zZ])
       refine tZ (i:=20) (v:=?_) rfl (.inl ⟨by rfl, ?_⟩) hHeld ?_
       rotate_left
       ·(intro w hSw; (try dsimp only at hSw); go_simp; try (with_reducible rfl))
       (try simp only [Act.put, zZ])
       refine wpAnyH_ready (rs := [21]) (by kernel_rfl) (by simp) ?_
       refine AllReadyH.cons (o := _) rfl (fun K hK => ?_) AllReadyH.nil
       go_simp
       (have js := visible_impl _ _ _ JL x.t _ (xJ.below hHeld.1); rw [j3.out] at js; refine js.mono ?_; clear js; rintro e wb ⟨rfl, hb'⟩; go_wp2_with fail)
       refine hK.out _ _ ?_ (fun hHeld2 => ?_)
       ·exact kp_step hHeld hb'
       clear hK K hHeld
       have hHeld := hHeld2
       clear hHeld2
       (try simp only [Act.put, zZ])
       refine tZ (i:=22) (v:=?_) rfl (.inl ⟨by rfl, ?_⟩) hHeld ?_
       rotate_left
       ·(intro w hSw; (try dsimp only at hSw); go_simp; try (with_reducible rfl))
       (try simp only [Act.put, zZ])
       refine tZ (i:=23) (v:=?_) rfl (.inl ⟨by rfl, ?_⟩) hHeld ?_
       rotate_left
       ·(intro w hSw; (try dsimp only at hSw); go_simp; try (with_reducible rfl))
       (try simp only [Act.put, zZ])
       refine tZ (i:=24) (v:=?_) rfl (.inl ⟨by rfl, ?_⟩) hHeld ?_
       rotate_left
       ·(intro w hSw; (try dsimp only at hSw); go_simp; try (with_reducible rfl))
       (try simp only [Act.put, zZ])
       refine tZ (i:=25) (v:=?_) rfl (.inl ⟨by rfl, ?_⟩) hHeld ?_
       rotate_left
       ·(intro w hSw; (try dsimp only at hSw); go_simp; try (with_reducible rfl))
       (try simp only [Act.put, zZ])
       refine wpAnyH_done (by kernel_rfl) ?_ _
       have Bz := B13.trans (hHeld.1.mono B13.size)
       clear hHeld
       go_wp2_with fail
       go_ret
       exact ⟨rfl, Bz⟩
     ·have f2 : (k2 != 0) = true := by simp [h20]
      clear h10 h20
      go_wp2_with fail
      go_ret
      exact ⟨rfl, B12⟩
    ·have f1 : (k1 != 0) = true := by simp [h10]
     clear h10
     go_wp2_with fail
     go_ret
     exact ⟨rfl, B12⟩

theorem own : ownKnob Tryz.prog.godebug = none := by kernel_rfl

theorem laidOut : laidOutB Tryz.prog = true := by kernel_rfl

set_option maxRecDepth 100000 in
theorem door_met (os : Os) (args : Array Value) : laidMetH Tryz.prog Rows.fnSameOpsRow.laid ((World.doorLaid Tryz.prog 111 os).forCall (fun _ _ => 0) ⟨#[], args, []⟩).memory :=
 laidMetH_of_parts3 (fuel := 8) (laidMet_of_run' 8 (by kernel_rfl) (by kernel_rfl)) (by kernel_rfl) (by kernel_rfl)

set_option maxRecDepth 100000 in
theorem lifted (os : Os) (started : os.Started) (H : Type) (enc : TypeId × Value → H) :
  ReturnsInHanded {} Tryz.checked os 5 .any (fun w args => (Rows.fnSameOpsSpec.pre enc Tryz.prog Tryz.f5 Rows.fnSameOpsRow.domain false w args ∧ laidMetH Tryz.prog Rows.fnSameOpsRow.laid w) ∧ sizedMet enc Tryz.prog Tryz.f5 (OpenSpec.ofChange Rows.fnSameOpsSpec) false w args) (Rows.fnSameOpsSpec.post enc Tryz.prog Tryz.f5 false true false false) := by
 refine returnsInHanded_of_change_and (C := Tryz.checked) (X := fun w _ => laidMetH Tryz.prog Rows.fnSameOpsRow.laid w) (fun _ _ _ hh h => h.of_heap hh) own started (by kernel_rfl) Tryz.func5
  (ChangeSpec.witness_shaped (enc := enc) (C := Tryz.checked) (os := os) (X := fun w _ => laidMetH Tryz.prog Rows.fnSameOpsRow.laid w) false (World.doorLaid Tryz.prog 111 os) #[.slice none 0 0] 8 rfl (World.shaped_of_RefB (by kernel_rfl) (by kernel_rfl)) (by kernel_rfl) (by kernel_rfl) (by kernel_rfl) (door_met os _)) ?_
 intro W base args ds gs before hval0 hW hcnd _ hL _
 have hval : ∀ (j : Nat) t v, Tryz.f5.params[j]? = some t → args[j]? = some v → Value.okWide Tryz.prog W .any base t v := hval0
 have hW' := hW
 obtain ⟨p, q, hA0, hV, rfl, hfz, hnd⟩ := hW
 have hA : DataW.TrodAll enc Tryz.prog W 0 (fun _ => true) true Tryz.f5.params.toList args.toList ds p := hA0
 rw [Tryz.params5] at hA hval
 obtain ⟨v0, vs0, d0, ds0, p0, q0, hargs, rfl, rfl, h0, r0⟩ := trodAll_cons hA
 obtain ⟨rfl, rfl, rfl⟩ := trodAll_nil r0
 obtain rfl : args = #[v0] := by cases args; simp_all
 obtain ⟨gg0, gg1, gg2, gg3, gg4, rfl⟩ := list5 (trodVars_len hV)
 have k0 := h0
 have lt0 : ∀ x ∈ p0, x.block < W.heap.size := by obtain ⟨m, hm⟩ := k0; exact DataW.trod_lt m _ _ _ hm
 obtain ⟨a0, l0, c0, rfl⟩ := okWide_slice Tryz.underlying22 (hval 0 22 v0 rfl rfl)
 obtain ⟨fu0, hf0⟩ := h0
 have by0 := open_bytes hf0
 clear hA0 hval0
 refine (walk a0 l0 c0 W by0 (sens_of hL)).mono fun e W' ⟨he, bel⟩ => ?_
 subst he
 exact ⟨_, rfl, _, _, _, [], _, _, hW', trodAll_mk1 (shut_bool Tryz.underlying4 _), (trodAll_cons_mk (Below.trod laidOut (by kernel_rfl) (of_decide_eq_true (by kernel_rfl)) k0 bel lt0) trodAll_mk0), Below.trodVars laidOut bel (by kernel_rfl) hV, bel.frame _, fun h => by cases h⟩

theorem over : Rows.fnSameOpsRow.holds Tryz.pinned (OpenSpec.ofChange Rows.fnSameOpsSpec) :=
 OpenClaim.holds_of_wide 5 Tryz.f5 rfl rfl rfl rfl rfl rfl rfl ⟨rfl, rfl, rfl, rfl, rfl⟩ rfl rfl rfl rfl rfl (by kernel_rfl) Tryz.func5 (by kernel_rfl)
  (of_decide_eq_true (by kernel_rfl)) (by unfold Func.isWrapper; first | (rw [if_pos (by decide +kernel)]; kernel_rfl) | (rw [if_neg (by decide +kernel)]; exact ⟨rfl, rfl⟩))
  (fun os started H enc _ => lifted os started H enc)

theorem proved : Rows.FnSameOpsCardSaid :=
 Claim7.holds_tied_plain_at .later [] [.handle, .sentinel, .sentinel, .sentinel, .sentinel, .sentinel] true (true, "d847580c0baf8cb44f53c281aef2f508ffd1520f54dc402e0f6ffdcf892a1bba") true
  over (fun _ h => by cases h) (by kernel_rfl) (fun _ h => by cases h) fnSameOps_row_tie rfl ⟨rfl, rfl⟩ (by kernel_rfl) rfl
  (fun f fn hf hfn => by
   obtain rfl : f = 5 := Option.some.inj ((show Tryz.prog.funcNamed "loop.example/g00368/laws.FnSameOps" = some 5 by kernel_rfl).symm.trans hf) |>.symm
   obtain rfl : fn = Tryz.f5 := (Option.some.inj (Tryz.func5.symm.trans hfn)).symm
   exact ⟨by kernel_rfl, fun j t ht => by
    rw [Tryz.params5] at ht
    have hm : t ∈ [22] := by simpa using Array.mem_of_getElem? ht
    have hall : ([22].all fun u => !Tryz.prog.wantsStandIn u) = true := by kernel_rfl
    exact (show Tryz.prog.wantsStandIn t = false by simpa using List.all_eq_true.1 hall t hm)⟩)
  (by kernel_rfl)

end Go.Proofs.YtccendmoeelniaaGreatDoor.fnSameOps
namespace Go.Proofs.YtccendmoeelniaaGreatDoor
theorem fnSameOps_holds : Rows.FnSameOpsCardSaid := fnSameOps.proved

end Go.Proofs.YtccendmoeelniaaGreatDoor
