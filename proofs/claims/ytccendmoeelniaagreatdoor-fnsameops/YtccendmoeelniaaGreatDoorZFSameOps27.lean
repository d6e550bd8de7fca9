/-
  Texts of one proof, joined: Is3.
-/
import Derived.Test.YtccendmoeelniaaGreatDoorZFSameOps24
import Derived.Test.YtccendmoeelniaaGreatDoorZFSameOps26
import Derived.Test.YtccendmoeelniaaGreatDoorZFSameOps21
namespace M1
theorem lvT_bd {us : List Upd} (h : setOk us = true) (t : Int) : lvT us t ≤ 1000000 := by
 have key : ∀ k, k ≤ us.length → lvl (ofT 3 t us k) ≤ 1000000 := by
  intro k
  induction k with
  | zero => intro _; show (0 : Int) ≤ 1000000; omega
  | succ k ih =>
   intro hk
   have ih := ih (by omega)
   by_cases c : (up us k).k = 3 ∧ (up us k).tr = t
   ·rw [ofT_yes c, lvl_snoc]
    have hu := okAt_ok (setOk_all h k (by omega))
    have : (up us k).lv ≤ 1000000 := by
     unfold okU updB kindB at hu
     rw [c.1] at hu
     simp [inB] at hu
     omega
    omega
   ·rw [ofT_no c]; exact ih
 exact key _ (Nat.le_refl _)

end M1
namespace Go.Proofs.YtccendmoeelniaaGreatDoor
open Go.ChangeShapes Go.WideShapes Go.ChangeAt Go.RowKit
set_option linter.unusedSimpArgs false
set_option linter.unusedVariables false
theorem idx_any (us : List M1.Upd) (n : Nat) (i : Int) (w : World) (h1 : 1 ≤ i) (h5 : i ≤ 5) : Sem.run Tryz.prog (Instr.index 96 (.agg #[.int .i64 (M1.lastN us n 1), .int .i64 (M1.lastN us n 2), .int .i64 (M1.lastN us n 3), .int .i64 (M1.lastN us n 4), .int .i64 (M1.lastN us n 5)]) (.int .i64 (i - 1))) w = .ok (.int .i64 (M1.lastN us n i)) w := by
 have : i = 1 ∨ i = 2 ∨ i = 3 ∨ i = 4 ∨ i = 5 := by omega
 rcases this with rfl | rfl | rfl | rfl | rfl
 ·exact idx0 _ _ _ _ _ _
 ·exact idx1 _ _ _ _ _ _
 ·exact idx2 _ _ _ _ _ _
 ·exact idx3 _ _ _ _ _ _
 ·exact idx4 _ _ _ _ _ _

def u0 (r : M1.Rg) (x : M1.OpV) (a b c : Int) (n : Nat) : M1.Upd := ⟨r.id, M1.lastN r.us n r.id + 1, a, b, c, 0, x.t, 0, 0, ByteArray.empty, 0, 0, 0⟩

def nuV (r : M1.Rg) (x : M1.OpV) (a b c : Int) (n : Nat) : M1.Upd := if x.k = 1 then ⟨r.id, M1.lastN r.us n r.id + 1, a, b, c, 1, x.t, x.id, x.pa, x.s, x.st, x.en, 0⟩ else if x.k = 2 then ⟨r.id, M1.lastN r.us n r.id + 1, a, b, c, 2, x.t, 0, 0, ByteArray.empty, 0, 0, 0⟩ else ⟨r.id, M1.lastN r.us n r.id + 1, a, b, c, 3, x.t, 0, 0, ByteArray.empty, 0, 0, M1.lvT r.us x.t + 1⟩

theorem nuV_1 {r : M1.Rg} {x : M1.OpV} {a b c : Int} {n : Nat} (h : x.k = 1) : ⟨r.id, M1.lastN r.us n r.id + 1, a, b, c, 1, x.t, x.id, x.pa, x.s, x.st, x.en, 0⟩ = nuV r x a b c n := by unfold nuV; rw [if_pos h]

theorem nuV_2 {r : M1.Rg} {x : M1.OpV} {a b c : Int} {n : Nat} (h : x.k = 2) : ⟨r.id, M1.lastN r.us n r.id + 1, a, b, c, 2, x.t, 0, 0, ByteArray.empty, 0, 0, 0⟩ = nuV r x a b c n := by unfold nuV; rw [if_neg (by omega), if_pos h]

theorem nuV_3 {r : M1.Rg} {x : M1.OpV} {a b c : Int} {n : Nat} (h : ¬ x.k = 1) (h2 : ¬ x.k = 2) : ⟨r.id, M1.lastN r.us n r.id + 1, a, b, c, 3, x.t, 0, 0, ByteArray.empty, 0, 0, M1.lvT r.us x.t + 1⟩ = nuV r x a b c n := by unfold nuV; rw [if_neg h, if_neg h2]

theorem nuV_nu {r : M1.Rg} {x : M1.OpV} {now : Int} : nuV r x (M1.tk r now).a (M1.tk r now).b (M1.tk r now).c r.us.length = M1.nuU r x now := rfl

set_option maxHeartbeats 8000000 in
set_option maxRecDepth 100000 in
theorem nextUpdate_any (p : Nat) (r : M1.Rg) (x : M1.OpV) (a b c : Int) (av : Option Addr) (n cn : Nat) (w : World) (hP : RgAt w p r.id r.a r.b r.c av n cn) (hU : IsUpds w av n cn r.us) (hset : Hid (M1.setOk r.us = true)) (i1 : 1 ≤ r.id) (i5 : r.id ≤ 5) :
  Calls Tryz.prog 88 #[.pointer (some ⟨p, 0, none⟩), .agg #[.int .i64 x.k, .int .i64 x.t, .int .i64 x.id, .int .i64 x.pa, .string x.s, .int .i64 x.st, .int .i64 x.en], .agg #[.int .i64 a, .int .i64 b, .int .i64 c]] w fun e w' => (∃ u : M1.Upd, e = .returned (.agg #[.int .i64 u.dr, .int .i64 u.dn, .int .i64 u.sw, .int .i64 u.sc, .int .i64 u.sr, .int .i64 u.k, .int .i64 u.tr, .int .i64 u.id, .int .i64 u.pa, .string u.s, .int .i64 u.st, .int .i64 u.en, .int .i64 u.lv]) ∧ Hid (u = nuV r x a b c n)) ∧ Below w.heap.size w w' := by
 have hA : Below w.heap.size w (((w.alloc (.cells #[.int .i64 x.k, .int .i64 x.t, .int .i64 x.id, .int .i64 x.pa, .string x.s, .int .i64 x.st, .int .i64 x.en] 32)).alloc (.cells #[.int .i64 a, .int .i64 b, .int .i64 c] 25)).alloc (.cells #[.int .i64 0, .int .i64 0, .int .i64 0, .int .i64 0, .int .i64 0, .int .i64 0, .int .i64 0, .int .i64 0, .int .i64 0, .string ⟨#[]⟩, .int .i64 0, .int .i64 0, .int .i64 0] 38)) := (((Below.refl _ _).alloc (Nat.le_refl _) _).alloc (by simp) _).alloc (by simp <;> omega) _
 have oA := ((op_new w x 32).alloc (.cells #[.int .i64 a, .int .i64 b, .int .i64 c] 25)).alloc (.cells #[.int .i64 0, .int .i64 0, .int .i64 0, .int .i64 0, .int .i64 0, .int .i64 0, .int .i64 0, .int .i64 0, .int .i64 0, .string ⟨#[]⟩, .int .i64 0, .int .i64 0, .int .i64 0] 38)
 have kA := (st_new (w.alloc (.cells #[.int .i64 x.k, .int .i64 x.t, .int .i64 x.id, .int .i64 x.pa, .string x.s, .int .i64 x.st, .int .i64 x.en] 32)) a b c 25).alloc (.cells #[.int .i64 0, .int .i64 0, .int .i64 0, .int .i64 0, .int .i64 0, .int .i64 0, .int .i64 0, .int .i64 0, .int .i64 0, .string ⟨#[]⟩, .int .i64 0, .int .i64 0, .int .i64 0] 38)
 have zA : RowAt (((w.alloc (.cells #[.int .i64 x.k, .int .i64 x.t, .int .i64 x.id, .int .i64 x.pa, .string x.s, .int .i64 x.st, .int .i64 x.en] 32)).alloc (.cells #[.int .i64 a, .int .i64 b, .int .i64 c] 25)).alloc (.cells #[.int .i64 0, .int .i64 0, .int .i64 0, .int .i64 0, .int .i64 0, .int .i64 0, .int .i64 0, .int .i64 0, .int .i64 0, .string ⟨#[]⟩, .int .i64 0, .int .i64 0, .int .i64 0] 38)) ((w.alloc (.cells #[.int .i64 x.k, .int .i64 x.t, .int .i64 x.id, .int .i64 x.pa, .string x.s, .int .i64 x.st, .int .i64 x.en] 32)).alloc (.cells #[.int .i64 a, .int .i64 b, .int .i64 c] 25)).heap.size 13 (uq M1.zeroU) := uq_new ((w.alloc (.cells #[.int .i64 x.k, .int .i64 x.t, .int .i64 x.id, .int .i64 x.pa, .string x.s, .int .i64 x.st, .int .i64 x.en] 32)).alloc (.cells #[.int .i64 a, .int .i64 b, .int .i64 c] 25)) M1.zeroU 38
 rw [show (w.alloc (.cells #[.int .i64 x.k, .int .i64 x.t, .int .i64 x.id, .int .i64 x.pa, .string x.s, .int .i64 x.st, .int .i64 x.en] 32)).heap.size = w.heap.size + 1 by simp] at kA
 rw [show ((w.alloc (.cells #[.int .i64 x.k, .int .i64 x.t, .int .i64 x.id, .int .i64 x.pa, .string x.s, .int .i64 x.st, .int .i64 x.en] 32)).alloc (.cells #[.int .i64 a, .int .i64 b, .int .i64 c] 25)).heap.size = w.heap.size + 1 + 1 by simp] at zA
 go_enter Tryz.func88, Tryz.ntmps88
 go_upto_region 1 with fail
 obtain ⟨W1, hW1⟩ : ∃ W, ((w.alloc (.cells #[.int .i64 x.k, .int .i64 x.t, .int .i64 x.id, .int .i64 x.pa, .string x.s, .int .i64 x.st, .int .i64 x.en] 32)).alloc (.cells #[.int .i64 a, .int .i64 b, .int .i64 c] 25)).alloc (.cells #[.int .i64 0, .int .i64 0, .int .i64 0, .int .i64 0, .int .i64 0, .int .i64 0, .int .i64 0, .int .i64 0, .int .i64 0, .string ⟨#[]⟩, .int .i64 0, .int .i64 0, .int .i64 0] 38) = W := ⟨_, rfl⟩
 rw [hW1] at hA oA kA zA ⊢
 clear hW1
 obtain ⟨g, hg⟩ : ∃ b, Hid (w.heap.size = b) := ⟨_, rfl⟩
 rw [hg.out] at oA kA zA ⊢
 have P1 : RgAt W1 p r.id r.a r.b r.c av n cn := hP.below hA
 obtain ⟨d0, d1, d2, d3, d4⟩ := P1.cells
 have pl := P1.lt
 obtain ⟨c0, c1, c2, c3, c4, c5, c6⟩ := OpAt.cells (x := x) oA
 have ol := oA.lt
 obtain ⟨k0, k1, k2⟩ := StAt.cells kA
 have kl := kA.lt
 have zl := zA.lt
 have hidx : ∀ w, Sem.run Tryz.prog (Instr.index 96 (.agg #[.int .i64 (M1.lastN r.us n 1), .int .i64 (M1.lastN r.us n 2), .int .i64 (M1.lastN r.us n 3), .int .i64 (M1.lastN r.us n 4), .int .i64 (M1.lastN r.us n 5)]) (.int .i64 (r.id - 1))) w = .ok (.int .i64 (M1.lastN r.us n r.id)) w := fun w => idx_any r.us n r.id w i1 i5
 have hbd : 0 ≤ M1.lastN r.us n r.id ∧ M1.lastN r.us n r.id ≤ 1000000 := M1.lastN_bd (M1.setOk_all hset.out) r.id n (by rw [← hU.hlen]; exact Nat.le_refl _)
 have hdr : Hid (∀ j, j < n → 1 ≤ (M1.up r.us j).dr ∧ (M1.up r.us j).dr ≤ 5) := (fun j hj => (fun q => ⟨q.1, q.2.1⟩) (M1.okU_dot (M1.okAt_ok (M1.setOk_all hset.out j (by rw [hU.hlen]; exact hj)))) : ∀ j, j < n → 1 ≤ (M1.up r.us j).dr ∧ (M1.up r.us j).dr ≤ 5)
 go_cut [7] (fun v7 wc => ∃ q, v7 = .pointer (some ⟨q, 0, none⟩) ∧ RowAt wc q 13 (uq (u0 r x a b c n)) ∧ Below W1.heap.size W1 wc ∧ W1.heap.size ≤ q)
 case first =>
  refine wp_region_held_drew (S := fun w' => Kp W1 w') (by kernel_rfl) ?_ (fun hHeld => ?_)
  ·exact kp_zero _
  refine tZ (i:=0) (v:=?_) rfl (.inl ⟨by rfl, ?_⟩) hHeld ?_
  rotate_left
  ·(intro w hSw; (try dsimp only at hSw); go_simp; try (with_reducible rfl))
  (try simp only [Act.put, zZ])
  refine tZ (i:=1) (v:=?_) rfl (.inl ⟨by rfl, ?_⟩) hHeld ?_
  rotate_left
  ·(intro w hSw; (try dsimp only at hSw); go_simp; try (with_reducible rfl))
  (try simp only [Act.put, zZ])
  refine tZ (i:=2) (v:=?_) rfl (.inl ⟨by rfl, ?_⟩) hHeld ?_
  rotate_left
  ·(intro w hSw; (try dsimp only at hSw); go_simp; try (with_reducible rfl))
  (try simp only [Act.put, zZ])
  refine tZ (i:=3) (v:=?_) rfl (.inl ⟨by rfl, ?_⟩) hHeld ?_
  rotate_left
  ·(intro w hSw; (try dsimp only at hSw); go_simp; try (with_reducible rfl))
  (try simp only [Act.put, zZ])
  refine tZ (i:=4) (v:=?_) rfl (.inl ⟨by rfl, ?_⟩) hHeld ?_
  rotate_left
  ·(intro w hSw; (try dsimp only at hSw); go_simp; try (with_reducible rfl))
  (try simp only [Act.put, zZ])
  refine tZ (i:=5) (v:=?_) rfl (.inl ⟨by rfl, ?_⟩) hHeld ?_
  rotate_left
  ·(intro w hSw; (try dsimp only at hSw); go_simp; try (with_reducible rfl))
  (try simp only [Act.put, zZ])
  refine tZ (i:=6) (v:=?_) rfl (.inl ⟨by rfl, ?_⟩) hHeld ?_
  rotate_left
  ·(intro w hSw; (try dsimp only at hSw); go_simp; try (with_reducible rfl))
  (try simp only [Act.put, zZ])
  refine tZ (i:=7) (v:=?_) rfl (.inl ⟨by rfl, ?_⟩) hHeld ?_
  rotate_left
  ·(intro w hSw; (try dsimp only at hSw); go_simp; try (with_reducible rfl))
  (try simp only [Act.put, zZ])
  refine tZ (i:=9) (v:=?_) rfl (.inl ⟨by rfl, ?_⟩) hHeld ?_
  rotate_left
  ·(intro w hSw; (try dsimp only at hSw); go_simp; try (with_reducible rfl))
  (try simp only [Act.put, zZ])
  refine tZ (i:=10) (v:=?_) rfl (.inl ⟨by rfl, ?_⟩) hHeld ?_
  rotate_left
  ·(intro w hSw; (try dsimp only at hSw); go_simp; try (with_reducible rfl))
  (try simp only [Act.put, zZ])
  refine tZ (i:=11) (v:=?_) rfl (.inl ⟨by rfl, ?_⟩) hHeld ?_
  rotate_left
  ·(intro w hSw; (try dsimp only at hSw); go_simp; try (with_reducible rfl))
  (try simp only [Act.put, zZ])
  refine tZ (i:=12) (v:=?_) rfl (.inl ⟨by rfl, ?_⟩) hHeld ?_
  rotate_left
  ·(intro w hSw; (try dsimp only at hSw); go_simp; try (with_reducible rfl))
  (try simp only [Act.put, zZ])
  refine tZ (i:=13) (v:=.int .i64 (r.id - 1)) rfl (.inl ⟨by rfl, ?_⟩) hHeld ?_
  ·(intro w hSw; (try dsimp only at hSw); go_simp; (try exact IntWalk.i64_in _ (by omega)))
  (try simp only [Act.put, zZ])
  refine tZ (i:=17) (v:=?_) rfl (.inl ⟨by rfl, ?_⟩) hHeld ?_
  rotate_left
  ·(intro w hSw; (try dsimp only at hSw); go_simp; try (with_reducible rfl))
  (try simp only [Act.put, zZ])
  refine tZ (i:=18) (v:=?_) rfl (.inl ⟨by rfl, ?_⟩) hHeld ?_
  rotate_left
  ·(intro w hSw; (try dsimp only at hSw); go_simp; try (with_reducible rfl))
  (try simp only [Act.put, zZ])
  refine tZ (i:=19) (v:=?_) rfl (.inl ⟨by rfl, ?_⟩) hHeld ?_
  rotate_left
  ·(intro w hSw; (try dsimp only at hSw); go_simp; try (with_reducible rfl))
  (try simp only [Act.put, zZ])
  refine wpAnyH_ready (rs := [8, 21]) (by kernel_rfl) (by simp) ?_
  refine AllReadyH.cons (o := _) rfl (fun K hK => ?_) (AllReadyH.cons (o := _) rfl (fun K hK => ?_) AllReadyH.nil)
  ·go_simp
   refine (lastOf_any _ _ _ r.us _ (hU.below hA.drew) hdr).mono ?_
   rintro e w2 ⟨rfl, hb2⟩
   go_wp2_with fail
   have B2 : Below W1.heap.size W1 w2 := (Below.refl _ W1).drew.trans hb2
   refine hK.out _ _ (kp_of B2) (fun hHeld2 => ?_)
   clear hK K hHeld
   have hHeld := hHeld2
   clear hHeld2
   (try simp only [Act.put, zZ])
   refine tZ (i:=14) (v:=.int .i64 (M1.lastN r.us n r.id)) rfl (.inl ⟨by rfl, ?_⟩) hHeld ?_
   ·(intro w hSw; (try dsimp only at hSw); go_simp; skip)
   (try simp only [Act.put, zZ])
   refine tZ (i:=15) (v:=.int .i64 (M1.lastN r.us n r.id + 1)) rfl (.inl ⟨by rfl, ?_⟩) hHeld ?_
   ·(intro w hSw; (try dsimp only at hSw); go_simp; (try exact IntWalk.i64_in _ (by omega)))
   (try simp only [Act.put, zZ])
   refine tZ (i:=16) (v:=?_) rfl (.inl ⟨by rfl, ?_⟩) hHeld ?_
   rotate_left
   ·(intro w hSw; (try dsimp only at hSw); go_simp; try (with_reducible rfl))
   (try simp only [Act.put, zZ])
   refine tZ (i:=20) (v:=?_) rfl (.inl ⟨by rfl, ?_⟩) hHeld ?_
   rotate_left
   ·(intro w hSw; (try dsimp only at hSw); go_simp; try (with_reducible rfl))
   (try simp only [Act.put, zZ])
   refine wpAnyH_ready (rs := [21]) (by kernel_rfl) (by simp) ?_
   refine AllReadyH.cons (o := _) rfl (fun K hK => ?_) AllReadyH.nil
   go_simp
   skip
   refine hK.out _ _ ?_ (fun hHeld2 => ?_)
   ·exact kp_alloc hHeld _
   clear hK K hHeld
   have hHeld := hHeld2
   clear hHeld2
   (try simp only [Act.put, zZ])
   refine wpAnyH_ready (rs := [22]) (by kernel_rfl) (by simp) ?_
   refine AllReadyH.cons (o := _) rfl (fun K hK => ?_) AllReadyH.nil
   go_simp
   skip
   refine hK.out _ _ ?_ (fun hHeld2 => ?_)
   ·exact kp_of (B2.alloc B2.size _)
   clear hK K hHeld
   have hHeld := hHeld2
   clear hHeld2
   (try simp only [Act.put, zZ])
   refine wpAnyH_done (by kernel_rfl) ?_ _
   have hN : RowAt _ w2.heap.size 13 (uq (u0 r x a b c n)) := uq_new w2 (u0 r x a b c n) 38
   go_wp2_with fail
   go_meet
   exact ⟨w2.heap.size, rfl, hN, B2.alloc B2.size _, B2.size⟩
  ·go_simp
   refine hK.out _ _ (kp_alloc hHeld _) (fun hHeld2 => ?_)
   clear hK K hHeld
   have hHeld := hHeld2
   clear hHeld2
   (try simp only [Act.put, zZ])
   have zN : RowAt (W1.alloc (.cells #[.int .i64 0, .int .i64 0, .int .i64 0, .int .i64 0, .int .i64 0, .int .i64 0, .int .i64 0, .int .i64 0, .int .i64 0, .string ⟨#[]⟩, .int .i64 0, .int .i64 0, .int .i64 0] 38)).drew W1.heap.size 13 (uq M1.zeroU) := (uq_new W1 M1.zeroU 38).drew
   have B2 : Below W1.heap.size W1 (W1.alloc (.cells #[.int .i64 0, .int .i64 0, .int .i64 0, .int .i64 0, .int .i64 0, .int .i64 0, .int .i64 0, .int .i64 0, .int .i64 0, .string ⟨#[]⟩, .int .i64 0, .int .i64 0, .int .i64 0] 38)).drew := ((Below.refl _ W1).alloc (Nat.le_refl _) _).drew
   obtain ⟨W2, hW2⟩ : ∃ W, (W1.alloc (.cells #[.int .i64 0, .int .i64 0, .int .i64 0, .int .i64 0, .int .i64 0, .int .i64 0, .int .i64 0, .int .i64 0, .int .i64 0, .string ⟨#[]⟩, .int .i64 0, .int .i64 0, .int .i64 0] 38)).drew = W := ⟨_, rfl⟩
   rw [hW2] at hHeld zN B2 ⊢
   clear hW2
   obtain ⟨q, hq⟩ : ∃ q, Hid (W1.heap.size = q) := ⟨_, rfl⟩
   have hql : W1.heap.size ≤ q := by rw [hq.out]; exact Nat.le_refl _
   rw [hq.out] at zN
   (try rw [show W1.drew.heap.size = q from hq.out])
   (try rw [hq.out])
   refine wpAnyH_ready (rs := [8]) (by kernel_rfl) (by simp) ?_
   refine AllReadyH.cons (o := _) rfl (fun K hK => ?_) AllReadyH.nil
   go_simp
   (refine (lastOf_any _ _ _ r.us _ (hU.below (hA.trans (B2.mono hA.size))) hdr).mono ?_; rintro e w3 ⟨rfl, hb3⟩; go_wp2_with fail)
   refine hK.out _ _ ?_ (fun hHeld2 => ?_)
   ·exact kp_of (B2.trans (hb3.mono B2.size))
   clear hK K hHeld
   have hHeld := hHeld2
   clear hHeld2
   (try simp only [Act.put, zZ])
   have B3 := B2.trans (hb3.mono B2.size)
   have z3 : RowAt w3 q 13 (uq M1.zeroU) := RowAt.below zN hb3
   refine tZ (i:=14) (v:=.int .i64 (M1.lastN r.us n r.id)) rfl (.inl ⟨by rfl, ?_⟩) hHeld ?_
   ·(intro w hSw; (try dsimp only at hSw); go_simp; skip)
   (try simp only [Act.put, zZ])
   refine tZ (i:=15) (v:=.int .i64 (M1.lastN r.us n r.id + 1)) rfl (.inl ⟨by rfl, ?_⟩) hHeld ?_
   ·(intro w hSw; (try dsimp only at hSw); go_simp; (try exact IntWalk.i64_in _ (by omega)))
   (try simp only [Act.put, zZ])
   refine tZ (i:=16) (v:=?_) rfl (.inl ⟨by rfl, ?_⟩) hHeld ?_
   rotate_left
   ·(intro w hSw; (try dsimp only at hSw); go_simp; try (with_reducible rfl))
   (try simp only [Act.put, zZ])
   refine tZ (i:=20) (v:=?_) rfl (.inl ⟨by rfl, ?_⟩) hHeld ?_
   rotate_left
   ·(intro w hSw; (try dsimp only at hSw); go_simp; try (with_reducible rfl))
   (try simp only [Act.put, zZ])
   obtain ⟨y0, y1, y2, y3, y4, y5, y6, y7, y8, y9, y10, y11, y12⟩ := uq_cells z3
   obtain ⟨f0, f1, f2, f3, f4, f5, f6, f7, f8, f9, f10, f11, f12⟩ := uq_free z3
   have zl3 := z3.lt
   refine wpAnyH_ready (rs := [22]) (by kernel_rfl) (by simp) ?_
   refine AllReadyH.cons (o := _) rfl (fun K hK => ?_) AllReadyH.nil
   go_simp
   skip
   refine hK.out _ _ ?_ (fun hHeld2 => ?_)
   ·exact kp_of (bel_put B3 hql (u0 r x a b c n))
   clear hK K hHeld
   have hHeld := hHeld2
   clear hHeld2
   (try simp only [Act.put, zZ])
   refine wpAnyH_done (by kernel_rfl) ?_ _
   have hN := uq_put z3 (u0 r x a b c n)
   have B4 := bel_put B3 hql (u0 r x a b c n)
   clear y0 y1 y2 y3 y4 y5 y6 y7 y8 y9 y10 y11 y12 f0 f1 f2 f3 f4 f5 f6 f7 f8 f9 f10 f11 f12
   go_wp2_with fail
   go_meet
   exact ⟨q, rfl, hN, B4, hql⟩
 case rest =>
  obtain ⟨q, rfl, hq, hBc, hqz⟩ := hcut
  have oC := RowAt.below oA hBc
  have PC : RgAt wc p r.id r.a r.b r.c av n cn := hP.below (hA.trans (hBc.mono hA.size))
  clear d0 d1 d2 d3 d4 c0 c1 c2 c3 c4 c5 c6 k0 k1 k2 ol kl pl hidx hdr
  obtain ⟨c0, c1, c2, c3, c4, c5, c6⟩ := OpAt.cells (x := x) oC
  have ol := oC.lt
  obtain ⟨y0, y1, y2, y3, y4, y5, y6, y7, y8, y9, y10, y11, y12⟩ := uq_cells hq
  simp only [u0] at y0 y1 y2 y3 y4 y5 y6 y7 y8 y9 y10 y11 y12
  have yl := hq.lt
  by_cases k1 : x.k = 1
  ·have HU : Hid ((⟨r.id, M1.lastN r.us n r.id + 1, a, b, c, 1, x.t, x.id, x.pa, x.s, x.st, x.en, 0⟩ : M1.Upd) = nuV r x a b c n) := (by exact nuV_1 k1 : (⟨r.id, M1.lastN r.us n r.id + 1, a, b, c, 1, x.t, x.id, x.pa, x.s, x.st, x.en, 0⟩ : M1.Upd) = nuV r x a b c n)
   rw [k1] at c0
   clear k1
   go_wp2_with fail
   refine (withChange_span _ _ _ _ _ _ _ _ _ _ _ _ _ _ _ _ _ _ _).mono ?_
   rintro e w4 ⟨rfl, hb4⟩
   have B4 : Below W1.heap.size W1 w4 := hBc.trans (hb4.mono hBc.size)
   clear c0 c1 c2 c3 c4 c5 c6 y0 y1 y2 y3 y4 y5 y6 y7 y8 y9 y10 y11 y12 ol yl
   have z4 : RowAt w4 (g + 1 + 1) 13 (uq M1.zeroU) := RowAt.below zA B4
   have hzg : w.heap.size ≤ g + 1 + 1 := by rw [hg.out]; omega
   have zz : RowAt (((((((((((((w4.setCell ⟨g + 1 + 1, 0, none⟩ (.int .i64 (r.id))).setCell ⟨g + 1 + 1, 1, none⟩ (.int .i64 (M1.lastN r.us n r.id + 1))).setCell ⟨g + 1 + 1, 2, none⟩ (.int .i64 (a))).setCell ⟨g + 1 + 1, 3, none⟩ (.int .i64 (b))).setCell ⟨g + 1 + 1, 4, none⟩ (.int .i64 (c))).setCell ⟨g + 1 + 1, 5, none⟩ (.int .i64 (1))).setCell ⟨g + 1 + 1, 6, none⟩ (.int .i64 (x.t))).setCell ⟨g + 1 + 1, 7, none⟩ (.int .i64 (x.id))).setCell ⟨g + 1 + 1, 8, none⟩ (.int .i64 (x.pa))).setCell ⟨g + 1 + 1, 9, none⟩ (.string x.s)).setCell ⟨g + 1 + 1, 10, none⟩ (.int .i64 (x.st))).setCell ⟨g + 1 + 1, 11, none⟩ (.int .i64 (x.en))).setCell ⟨g + 1 + 1, 12, none⟩ (.int .i64 (0))) (g + 1 + 1) 13 (uq ⟨r.id, M1.lastN r.us n r.id + 1, a, b, c, 1, x.t, x.id, x.pa, x.s, x.st, x.en, 0⟩) := uq_put z4 ⟨r.id, M1.lastN r.us n r.id + 1, a, b, c, 1, x.t, x.id, x.pa, x.s, x.st, x.en, 0⟩
   have BB : Below w.heap.size w (((((((((((((w4.setCell ⟨g + 1 + 1, 0, none⟩ (.int .i64 (r.id))).setCell ⟨g + 1 + 1, 1, none⟩ (.int .i64 (M1.lastN r.us n r.id + 1))).setCell ⟨g + 1 + 1, 2, none⟩ (.int .i64 (a))).setCell ⟨g + 1 + 1, 3, none⟩ (.int .i64 (b))).setCell ⟨g + 1 + 1, 4, none⟩ (.int .i64 (c))).setCell ⟨g + 1 + 1, 5, none⟩ (.int .i64 (1))).setCell ⟨g + 1 + 1, 6, none⟩ (.int .i64 (x.t))).setCell ⟨g + 1 + 1, 7, none⟩ (.int .i64 (x.id))).setCell ⟨g + 1 + 1, 8, none⟩ (.int .i64 (x.pa))).setCell ⟨g + 1 + 1, 9, none⟩ (.string x.s)).setCell ⟨g + 1 + 1, 10, none⟩ (.int .i64 (x.st))).setCell ⟨g + 1 + 1, 11, none⟩ (.int .i64 (x.en))).setCell ⟨g + 1 + 1, 12, none⟩ (.int .i64 (0))) := bel_put (hA.trans (B4.mono hA.size)) hzg ⟨r.id, M1.lastN r.us n r.id + 1, a, b, c, 1, x.t, x.id, x.pa, x.s, x.st, x.en, 0⟩
   obtain ⟨y0, y1, y2, y3, y4, y5, y6, y7, y8, y9, y10, y11, y12⟩ := uq_cells z4
   obtain ⟨f0, f1, f2, f3, f4, f5, f6, f7, f8, f9, f10, f11, f12⟩ := uq_free z4
   have zl4 := z4.lt
   go_wp2_with fail
   clear y0 y1 y2 y3 y4 y5 y6 y7 y8 y9 y10 y11 y12 f0 f1 f2 f3 f4 f5 f6 f7 f8 f9 f10 f11 f12 z4 B4 hb4
   obtain ⟨W5, hW5⟩ : ∃ W, (((((((((((((w4.setCell ⟨g + 1 + 1, 0, none⟩ (.int .i64 (r.id))).setCell ⟨g + 1 + 1, 1, none⟩ (.int .i64 (M1.lastN r.us n r.id + 1))).setCell ⟨g + 1 + 1, 2, none⟩ (.int .i64 (a))).setCell ⟨g + 1 + 1, 3, none⟩ (.int .i64 (b))).setCell ⟨g + 1 + 1, 4, none⟩ (.int .i64 (c))).setCell ⟨g + 1 + 1, 5, none⟩ (.int .i64 (1))).setCell ⟨g + 1 + 1, 6, none⟩ (.int .i64 (x.t))).setCell ⟨g + 1 + 1, 7, none⟩ (.int .i64 (x.id))).setCell ⟨g + 1 + 1, 8, none⟩ (.int .i64 (x.pa))).setCell ⟨g + 1 + 1, 9, none⟩ (.string x.s)).setCell ⟨g + 1 + 1, 10, none⟩ (.int .i64 (x.st))).setCell ⟨g + 1 + 1, 11, none⟩ (.int .i64 (x.en))).setCell ⟨g + 1 + 1, 12, none⟩ (.int .i64 (0))) = W := ⟨_, rfl⟩
   rw [hW5] at zz BB ⊢
   clear hW5
   obtain ⟨v0, v1, v2, v3, v4, v5, v6, v7, v8, v9, v10, v11, v12⟩ := uq_cells zz
   dsimp only at v0 v1 v2 v3 v4 v5 v6 v7 v8 v9 v10 v11 v12
   refine bodyPost_ret (v := .agg #[.int .i64 (r.id), .int .i64 (M1.lastN r.us n r.id + 1), .int .i64 (a), .int .i64 (b), .int .i64 (c), .int .i64 (1), .int .i64 (x.t), .int .i64 (x.id), .int .i64 (x.pa), .string x.s, .int .i64 (x.st), .int .i64 (x.en), .int .i64 (0)]) (by simp [results, Tryz.results88, go_sem, v0, v1, v2, v3, v4, v5, v6, v7, v8, v9, v10, v11, v12]) rfl ⟨⟨⟨r.id, M1.lastN r.us n r.id + 1, a, b, c, 1, x.t, x.id, x.pa, x.s, x.st, x.en, 0⟩, rfl, HU⟩, BB⟩
  ·have q1 : (x.k == 1) = false := by simpa using k1
   by_cases k2 : x.k = 2
   ·have HU : Hid ((⟨r.id, M1.lastN r.us n r.id + 1, a, b, c, 2, x.t, 0, 0, ByteArray.empty, 0, 0, 0⟩ : M1.Upd) = nuV r x a b c n) := (by exact nuV_2 k2 : (⟨r.id, M1.lastN r.us n r.id + 1, a, b, c, 2, x.t, 0, 0, ByteArray.empty, 0, 0, 0⟩ : M1.Upd) = nuV r x a b c n)
    rw [k2] at c0
    clear k1 k2 q1
    go_wp2_with fail
    refine (withChange_keep _ _ _ _ _ _ _ _ _ _ _ _ _ _).mono ?_
    rintro e w4 ⟨rfl, hb4⟩
    have B4 : Below W1.heap.size W1 w4 := hBc.trans (hb4.mono hBc.size)
    clear c0 c1 c2 c3 c4 c5 c6 y0 y1 y2 y3 y4 y5 y6 y7 y8 y9 y10 y11 y12 ol yl
    have z4 : RowAt w4 (g + 1 + 1) 13 (uq M1.zeroU) := RowAt.below zA B4
    have hzg : w.heap.size ≤ g + 1 + 1 := by rw [hg.out]; omega
    have zz : RowAt (((((((((((((w4.setCell ⟨g + 1 + 1, 0, none⟩ (.int .i64 (r.id))).setCell ⟨g + 1 + 1, 1, none⟩ (.int .i64 (M1.lastN r.us n r.id + 1))).setCell ⟨g + 1 + 1, 2, none⟩ (.int .i64 (a))).setCell ⟨g + 1 + 1, 3, none⟩ (.int .i64 (b))).setCell ⟨g + 1 + 1, 4, none⟩ (.int .i64 (c))).setCell ⟨g + 1 + 1, 5, none⟩ (.int .i64 (2))).setCell ⟨g + 1 + 1, 6, none⟩ (.int .i64 (x.t))).setCell ⟨g + 1 + 1, 7, none⟩ (.int .i64 (0))).setCell ⟨g + 1 + 1, 8, none⟩ (.int .i64 (0))).setCell ⟨g + 1 + 1, 9, none⟩ (.string ByteArray.empty)).setCell ⟨g + 1 + 1, 10, none⟩ (.int .i64 (0))).setCell ⟨g + 1 + 1, 11, none⟩ (.int .i64 (0))).setCell ⟨g + 1 + 1, 12, none⟩ (.int .i64 (0))) (g + 1 + 1) 13 (uq ⟨r.id, M1.lastN r.us n r.id + 1, a, b, c, 2, x.t, 0, 0, ByteArray.empty, 0, 0, 0⟩) := uq_put z4 ⟨r.id, M1.lastN r.us n r.id + 1, a, b, c, 2, x.t, 0, 0, ByteArray.empty, 0, 0, 0⟩
    have BB : Below w.heap.size w (((((((((((((w4.setCell ⟨g + 1 + 1, 0, none⟩ (.int .i64 (r.id))).setCell ⟨g + 1 + 1, 1, none⟩ (.int .i64 (M1.lastN r.us n r.id + 1))).setCell ⟨g + 1 + 1, 2, none⟩ (.int .i64 (a))).setCell ⟨g + 1 + 1, 3, none⟩ (.int .i64 (b))).setCell ⟨g + 1 + 1, 4, none⟩ (.int .i64 (c))).setCell ⟨g + 1 + 1, 5, none⟩ (.int .i64 (2))).setCell ⟨g + 1 + 1, 6, none⟩ (.int .i64 (x.t))).setCell ⟨g + 1 + 1, 7, none⟩ (.int .i64 (0))).setCell ⟨g + 1 + 1, 8, none⟩ (.int .i64 (0))).setCell ⟨g + 1 + 1, 9, none⟩ (.string ByteArray.empty)).setCell ⟨g + 1 + 1, 10, none⟩ (.int .i64 (0))).setCell ⟨g + 1 + 1, 11, none⟩ (.int .i64 (0))).setCell ⟨g + 1 + 1, 12, none⟩ (.int .i64 (0))) := bel_put (hA.trans (B4.mono hA.size)) hzg ⟨r.id, M1.lastN r.us n r.id + 1, a, b, c, 2, x.t, 0, 0, ByteArray.empty, 0, 0, 0⟩
    obtain ⟨y0, y1, y2, y3, y4, y5, y6, y7, y8, y9, y10, y11, y12⟩ := uq_cells z4
    obtain ⟨f0, f1, f2, f3, f4, f5, f6, f7, f8, f9, f10, f11, f12⟩ := uq_free z4
    have zl4 := z4.lt
    go_wp2_with fail
    clear y0 y1 y2 y3 y4 y5 y6 y7 y8 y9 y10 y11 y12 f0 f1 f2 f3 f4 f5 f6 f7 f8 f9 f10 f11 f12 z4 B4 hb4
    obtain ⟨W5, hW5⟩ : ∃ W, (((((((((((((w4.setCell ⟨g + 1 + 1, 0, none⟩ (.int .i64 (r.id))).setCell ⟨g + 1 + 1, 1, none⟩ (.int .i64 (M1.lastN r.us n r.id + 1))).setCell ⟨g + 1 + 1, 2, none⟩ (.int .i64 (a))).setCell ⟨g + 1 + 1, 3, none⟩ (.int .i64 (b))).setCell ⟨g + 1 + 1, 4, none⟩ (.int .i64 (c))).setCell ⟨g + 1 + 1, 5, none⟩ (.int .i64 (2))).setCell ⟨g + 1 + 1, 6, none⟩ (.int .i64 (x.t))).setCell ⟨g + 1 + 1, 7, none⟩ (.int .i64 (0))).setCell ⟨g + 1 + 1, 8, none⟩ (.int .i64 (0))).setCell ⟨g + 1 + 1, 9, none⟩ (.string ByteArray.empty)).setCell ⟨g + 1 + 1, 10, none⟩ (.int .i64 (0))).setCell ⟨g + 1 + 1, 11, none⟩ (.int .i64 (0))).setCell ⟨g + 1 + 1, 12, none⟩ (.int .i64 (0))) = W := ⟨_, rfl⟩
    rw [hW5] at zz BB ⊢
    clear hW5
    obtain ⟨v0, v1, v2, v3, v4, v5, v6, v7, v8, v9, v10, v11, v12⟩ := uq_cells zz
    dsimp only at v0 v1 v2 v3 v4 v5 v6 v7 v8 v9 v10 v11 v12
    refine bodyPost_ret (v := .agg #[.int .i64 (r.id), .int .i64 (M1.lastN r.us n r.id + 1), .int .i64 (a), .int .i64 (b), .int .i64 (c), .int .i64 (2), .int .i64 (x.t), .int .i64 (0), .int .i64 (0), .string ByteArray.empty, .int .i64 (0), .int .i64 (0), .int .i64 (0)]) (by simp [results, Tryz.results88, go_sem, v0, v1, v2, v3, v4, v5, v6, v7, v8, v9, v10, v11, v12]) rfl ⟨⟨⟨r.id, M1.lastN r.us n r.id + 1, a, b, c, 2, x.t, 0, 0, ByteArray.empty, 0, 0, 0⟩, rfl, HU⟩, BB⟩
   ·have q2 : (x.k == 2) = false := by simpa using k2
    have HU : Hid ((⟨r.id, M1.lastN r.us n r.id + 1, a, b, c, 3, x.t, 0, 0, ByteArray.empty, 0, 0, M1.lvT r.us x.t + 1⟩ : M1.Upd) = nuV r x a b c n) := (by exact nuV_3 k1 k2 : (⟨r.id, M1.lastN r.us n r.id + 1, a, b, c, 3, x.t, 0, 0, ByteArray.empty, 0, 0, M1.lvT r.us x.t + 1⟩ : M1.Upd) = nuV r x a b c n)
    have hlv : Hid (M1.levelOf r.us x.t = M1.lvT r.us x.t) := (by unfold M1.levelOf M1.lvT; rw [if_pos hset.out] : M1.levelOf r.us x.t = M1.lvT r.us x.t)
    have l0 : 0 ≤ M1.lvT r.us x.t := M1.lvl_nonneg _
    have l1 : M1.lvT r.us x.t ≤ 1000000 := M1.lvT_bd hset.out x.t
    clear k1 k2
    obtain ⟨d0, d1, d2, d3, d4⟩ := PC.cells
    have pl := PC.lt
    go_wp2_with fail
    refine wp_region_held_drew (S := fun w' => RowAt w' q 13 (uq (u0 r x a b c n)) ∧ RgAt w' p r.id r.a r.b r.c av n cn ∧ OpAt w' g x) (by kernel_rfl) ?_ (fun hHeld => ?_)
    ·exact ⟨hq.drew, RowAt.drew PC, RowAt.drew oC⟩
    refine tZ (i:=0) (v:=.agg #[.int .i64 r.id, .int .i64 (M1.lastN r.us n r.id + 1), .int .i64 a, .int .i64 b, .int .i64 c, .int .i64 0, .int .i64 x.t, .int .i64 0, .int .i64 0, .string ByteArray.empty, .int .i64 0, .int .i64 0, .int .i64 0]) rfl (.inl ⟨by rfl, ?_⟩) hHeld ?_
    ·(intro w hSw; (try dsimp only at hSw); go_simp; (obtain ⟨y0, y1, y2, y3, y4, y5, y6, y7, y8, y9, y10, y11, y12⟩ := uq_cells hSw.1; simp only [u0] at y0 y1 y2 y3 y4 y5 y6 y7 y8 y9 y10 y11 y12; simp [go_sem, y0, y1, y2, y3, y4, y5, y6, y7, y8, y9, y10, y11, y12]))
    (try simp only [Act.put, zZ])
    refine tZ (i:=1) (v:=?_) rfl (.inl ⟨by rfl, ?_⟩) hHeld ?_
    rotate_left
    ·(intro w hSw; (try dsimp only at hSw); go_simp; try (with_reducible rfl))
    (try simp only [Act.put, zZ])
    refine tZ (i:=2) (v:=?_) rfl (.inl ⟨by rfl, ?_⟩) hHeld ?_
    rotate_left
    ·(intro w hSw; (try dsimp only at hSw); go_simp; try (with_reducible rfl))
    (try simp only [Act.put, zZ])
    refine tZ (i:=3) (v:=?_) rfl (.inl ⟨by rfl, ?_⟩) hHeld ?_
    rotate_left
    ·(intro w hSw; (try dsimp only at hSw); go_simp; try (with_reducible rfl))
    (try simp only [Act.put, zZ])
    refine tZ (i:=4) (v:=.slice av n cn) rfl (.inl ⟨by rfl, ?_⟩) hHeld ?_
    ·(intro w hSw; (try dsimp only at hSw); go_simp; (have h4 := (RgAt.cells hSw.2.1).2.2.2.2; simp [go_sem, h4]))
    (try simp only [Act.put, zZ])
    refine tZ (i:=5) (v:=?_) rfl (.inl ⟨by rfl, ?_⟩) hHeld ?_
    rotate_left
    ·(intro w hSw; (try dsimp only at hSw); go_simp; try (with_reducible rfl))
    (try simp only [Act.put, zZ])
    refine tZ (i:=6) (v:=.int .i64 x.t) rfl (.inl ⟨by rfl, ?_⟩) hHeld ?_
    ·(intro w hSw; (try dsimp only at hSw); go_simp; (have h1 := (OpAt.cells (x := x) hSw.2.2).2.1; simp [go_sem, h1]))
    (try simp only [Act.put, zZ])
    refine wpAnyH_ready (rs := [7]) (by kernel_rfl) (by simp) ?_
    refine AllReadyH.cons (o := _) rfl (fun K hK => ?_) AllReadyH.nil
    go_simp
    (refine (levelOf_impl _ _ _ r.us x.t _ (hU.below (hA.trans (hBc.drew.mono hA.size)))).mono ?_; rw [hlv.out]; rintro e w3 ⟨rfl, hb3⟩; go_wp2_with fail)
    refine hK.out _ _ ?_ (fun hHeld2 => ?_)
    ·exact ⟨RowAt.below hHeld.1 hb3, RowAt.below hHeld.2.1 hb3, RowAt.below hHeld.2.2 hb3⟩
    clear hK K hHeld
    have hHeld := hHeld2
    clear hHeld2
    (try simp only [Act.put, zZ])
    have hBc2 := (Below.refl _ wc).drew.trans hb3
    refine tZ (i:=8) (v:=.int .i64 (M1.lvT r.us x.t + 1)) rfl (.inl ⟨by rfl, ?_⟩) hHeld ?_
    ·(intro w hSw; (try dsimp only at hSw); go_simp; (try exact IntWalk.i64_in _ (by omega)))
    (try simp only [Act.put, zZ])
    refine tZ (i:=9) (v:=?_) rfl (.inl ⟨by rfl, ?_⟩) hHeld ?_
    rotate_left
    ·(intro w hSw; (try dsimp only at hSw); go_simp; try (with_reducible rfl))
    (try simp only [Act.put, zZ])
    refine tZ (i:=10) (v:=?_) rfl (.inl ⟨by rfl, ?_⟩) hHeld ?_
    rotate_left
    ·(intro w hSw; (try dsimp only at hSw); go_simp; try (with_reducible rfl))
    (try simp only [Act.put, zZ])
    refine wpAnyH_ready (rs := [11]) (by kernel_rfl) (by simp) ?_
    refine AllReadyH.cons (o := _) rfl (fun K hK => ?_) AllReadyH.nil
    go_simp
    (refine (withChange_life _ _ _ _ _ _ _ _ _ _ _ _ _ _ _).mono ?_; rintro e w4 ⟨rfl, hb4⟩; go_wp2_with fail)
    refine hK.out _ _ ?_ (fun hHeld2 => ?_)
    ·exact ⟨RowAt.below hHeld.1 hb4, RowAt.below hHeld.2.1 hb4, RowAt.below hHeld.2.2 hb4⟩
    clear hK K hHeld
    have hHeld := hHeld2
    clear hHeld2
    (try simp only [Act.put, zZ])
    have B4 : Below W1.heap.size W1 w4 := hBc.trans ((hBc2.trans (hb4.mono hBc2.size)).mono hBc.size)
    clear d0 d1 d2 d3 d4 c0 c1 c2 c3 c4 c5 c6 y0 y1 y2 y3 y4 y5 y6 y7 y8 y9 y10 y11 y12 ol yl pl
    have m1 : g + 1 + 1 ≠ q := by omega
    have m2 : g + 1 + 1 ≠ p := by have := hP.lt; rw [hg.out] at this; omega
    have m3 : g + 1 + 1 ≠ g := by omega
    have z4 : RowAt w4 (g + 1 + 1) 13 (uq M1.zeroU) := RowAt.below zA B4
    have hzg : w.heap.size ≤ g + 1 + 1 := by rw [hg.out]; omega
    have zz : RowAt (((((((((((((w4.setCell ⟨g + 1 + 1, 0, none⟩ (.int .i64 (r.id))).setCell ⟨g + 1 + 1, 1, none⟩ (.int .i64 (M1.lastN r.us n r.id + 1))).setCell ⟨g + 1 + 1, 2, none⟩ (.int .i64 (a))).setCell ⟨g + 1 + 1, 3, none⟩ (.int .i64 (b))).setCell ⟨g + 1 + 1, 4, none⟩ (.int .i64 (c))).setCell ⟨g + 1 + 1, 5, none⟩ (.int .i64 (3))).setCell ⟨g + 1 + 1, 6, none⟩ (.int .i64 (x.t))).setCell ⟨g + 1 + 1, 7, none⟩ (.int .i64 (0))).setCell ⟨g + 1 + 1, 8, none⟩ (.int .i64 (0))).setCell ⟨g + 1 + 1, 9, none⟩ (.string ByteArray.empty)).setCell ⟨g + 1 + 1, 10, none⟩ (.int .i64 (0))).setCell ⟨g + 1 + 1, 11, none⟩ (.int .i64 (0))).setCell ⟨g + 1 + 1, 12, none⟩ (.int .i64 (M1.lvT r.us x.t + 1))) (g + 1 + 1) 13 (uq ⟨r.id, M1.lastN r.us n r.id + 1, a, b, c, 3, x.t, 0, 0, ByteArray.empty, 0, 0, M1.lvT r.us x.t + 1⟩) := uq_put z4 ⟨r.id, M1.lastN r.us n r.id + 1, a, b, c, 3, x.t, 0, 0, ByteArray.empty, 0, 0, M1.lvT r.us x.t + 1⟩
    have BB : Below w.heap.size w (((((((((((((w4.setCell ⟨g + 1 + 1, 0, none⟩ (.int .i64 (r.id))).setCell ⟨g + 1 + 1, 1, none⟩ (.int .i64 (M1.lastN r.us n r.id + 1))).setCell ⟨g + 1 + 1, 2, none⟩ (.int .i64 (a))).setCell ⟨g + 1 + 1, 3, none⟩ (.int .i64 (b))).setCell ⟨g + 1 + 1, 4, none⟩ (.int .i64 (c))).setCell ⟨g + 1 + 1, 5, none⟩ (.int .i64 (3))).setCell ⟨g + 1 + 1, 6, none⟩ (.int .i64 (x.t))).setCell ⟨g + 1 + 1, 7, none⟩ (.int .i64 (0))).setCell ⟨g + 1 + 1, 8, none⟩ (.int .i64 (0))).setCell ⟨g + 1 + 1, 9, none⟩ (.string ByteArray.empty)).setCell ⟨g + 1 + 1, 10, none⟩ (.int .i64 (0))).setCell ⟨g + 1 + 1, 11, none⟩ (.int .i64 (0))).setCell ⟨g + 1 + 1, 12, none⟩ (.int .i64 (M1.lvT r.us x.t + 1))) := bel_put (hA.trans (B4.mono hA.size)) hzg ⟨r.id, M1.lastN r.us n r.id + 1, a, b, c, 3, x.t, 0, 0, ByteArray.empty, 0, 0, M1.lvT r.us x.t + 1⟩
    obtain ⟨y0, y1, y2, y3, y4, y5, y6, y7, y8, y9, y10, y11, y12⟩ := uq_cells z4
    obtain ⟨f0, f1, f2, f3, f4, f5, f6, f7, f8, f9, f10, f11, f12⟩ := uq_free z4
    have zl4 := z4.lt
    refine wpAnyH_ready (rs := [12]) (by kernel_rfl) (by simp) ?_
    refine AllReadyH.cons (o := _) rfl (fun K hK => ?_) AllReadyH.nil
    go_simp
    skip
    refine hK.out _ _ ?_ (fun hHeld2 => ?_)
    ·exact ⟨far13 hHeld.1 m1 ⟨r.id, M1.lastN r.us n r.id + 1, a, b, c, 3, x.t, 0, 0, ByteArray.empty, 0, 0, M1.lvT r.us x.t + 1⟩, far13 hHeld.2.1 m2 ⟨r.id, M1.lastN r.us n r.id + 1, a, b, c, 3, x.t, 0, 0, ByteArray.empty, 0, 0, M1.lvT r.us x.t + 1⟩, far13 hHeld.2.2 m3 ⟨r.id, M1.lastN r.us n r.id + 1, a, b, c, 3, x.t, 0, 0, ByteArray.empty, 0, 0, M1.lvT r.us x.t + 1⟩⟩
    clear hK K hHeld
    have hHeld := hHeld2
    clear hHeld2
    (try simp only [Act.put, zZ])
    refine wpAnyH_done (by kernel_rfl) ?_ _
    clear y0 y1 y2 y3 y4 y5 y6 y7 y8 y9 y10 y11 y12 f0 f1 f2 f3 f4 f5 f6 f7 f8 f9 f10 f11 f12 z4 B4 hb4 hHeld
    go_wp2_with fail
    obtain ⟨W5, hW5⟩ : ∃ W, (((((((((((((w4.setCell ⟨g + 1 + 1, 0, none⟩ (.int .i64 (r.id))).setCell ⟨g + 1 + 1, 1, none⟩ (.int .i64 (M1.lastN r.us n r.id + 1))).setCell ⟨g + 1 + 1, 2, none⟩ (.int .i64 (a))).setCell ⟨g + 1 + 1, 3, none⟩ (.int .i64 (b))).setCell ⟨g + 1 + 1, 4, none⟩ (.int .i64 (c))).setCell ⟨g + 1 + 1, 5, none⟩ (.int .i64 (3))).setCell ⟨g + 1 + 1, 6, none⟩ (.int .i64 (x.t))).setCell ⟨g + 1 + 1, 7, none⟩ (.int .i64 (0))).setCell ⟨g + 1 + 1, 8, none⟩ (.int .i64 (0))).setCell ⟨g + 1 + 1, 9, none⟩ (.string ByteArray.empty)).setCell ⟨g + 1 + 1, 10, none⟩ (.int .i64 (0))).setCell ⟨g + 1 + 1, 11, none⟩ (.int .i64 (0))).setCell ⟨g + 1 + 1, 12, none⟩ (.int .i64 (M1.lvT r.us x.t + 1))) = W := ⟨_, rfl⟩
    rw [hW5] at zz BB ⊢
    clear hW5
    obtain ⟨v0, v1, v2, v3, v4, v5, v6, v7, v8, v9, v10, v11, v12⟩ := uq_cells zz
    dsimp only at v0 v1 v2 v3 v4 v5 v6 v7 v8 v9 v10 v11 v12
    refine bodyPost_ret (v := .agg #[.int .i64 (r.id), .int .i64 (M1.lastN r.us n r.id + 1), .int .i64 (a), .int .i64 (b), .int .i64 (c), .int .i64 (3), .int .i64 (x.t), .int .i64 (0), .int .i64 (0), .string ByteArray.empty, .int .i64 (0), .int .i64 (0), .int .i64 (M1.lvT r.us x.t + 1)]) (by simp [results, Tryz.results88, go_sem, v0, v1, v2, v3, v4, v5, v6, v7, v8, v9, v10, v11, v12]) rfl ⟨⟨⟨r.id, M1.lastN r.us n r.id + 1, a, b, c, 3, x.t, 0, 0, ByteArray.empty, 0, 0, M1.lvT r.us x.t + 1⟩, rfl, HU⟩, BB⟩

end Go.Proofs.YtccendmoeelniaaGreatDoor
