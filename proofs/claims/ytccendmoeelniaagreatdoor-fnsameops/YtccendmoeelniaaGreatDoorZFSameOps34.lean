/-
  Texts of one proof, joined: Is4.
-/
import Derived.Test.YtccendmoeelniaaGreatDoorZFSameOps27
import Derived.Test.YtccendmoeelniaaGreatDoorZFSameOps28
import Derived.Test.YtccendmoeelniaaGreatDoorZFSameOps29
import Derived.Test.YtccendmoeelniaaGreatDoorZFSameOps33
import Derived.Test.YtccendmoeelniaaGreatDoorZFSameOps19
namespace Go.Proofs.YtccendmoeelniaaGreatDoor
open Go.ChangeShapes Go.WideShapes Go.ChangeAt Go.RowKit
set_option linter.unusedSimpArgs false
set_option linter.unusedVariables false
theorem one_U {w : World} {g : Nat} {u : M1.Upd} (h : RowAt w g 13 (uq u)) (hs : u.s.size ≤ maxLen) : IsUpds w (some ⟨g, 0, none⟩) 1 1 [u] := by
 refine isUpds_of_row rfl (Nat.le_refl _) (by unfold maxLen; omega) (fun i hi => ?_) (h.same fun o ho => ?_)
 ·have : i = 0 := by omega
  subst this; exact hs
 ·unfold ucell
  have e1 : o / 13 = 0 := by omega
  have e2 : o % 13 = o := by omega
  rw [e1, e2]
  rfl

theorem mu_put13 {w : World} {av : Option Addr} {n cap lo hi z : Nat} {f : Nat → Value} (h : MU w av n cap lo hi f) (hz : z < lo) (u : M1.Upd) : MU (((((((((((((w.setCell ⟨z, 0, none⟩ (.int .i64 u.dr)).setCell ⟨z, 1, none⟩ (.int .i64 u.dn)).setCell ⟨z, 2, none⟩ (.int .i64 u.sw)).setCell ⟨z, 3, none⟩ (.int .i64 u.sc)).setCell ⟨z, 4, none⟩ (.int .i64 u.sr)).setCell ⟨z, 5, none⟩ (.int .i64 u.k)).setCell ⟨z, 6, none⟩ (.int .i64 u.tr)).setCell ⟨z, 7, none⟩ (.int .i64 u.id)).setCell ⟨z, 8, none⟩ (.int .i64 u.pa)).setCell ⟨z, 9, none⟩ (.string u.s)).setCell ⟨z, 10, none⟩ (.int .i64 u.st)).setCell ⟨z, 11, none⟩ (.int .i64 u.en)).setCell ⟨z, 12, none⟩ (.int .i64 u.lv)) av n cap lo hi f :=
 ⟨h.1, h.2.1, h.2.2.imp (fun h => h) fun ⟨k, e, h3, h4, r⟩ => ⟨k, e, h3, h4, far13 r (by omega) u⟩⟩

theorem cell1 {w : World} {z k : Nat} {a : Addr} {x : Option Value} (h : w.cell? a = x) (hz : z ≠ a.block) (v : Value) : (w.setCell ⟨z, k, none⟩ v).cell? a = x := (World.cell?_setCell_other w _ _ _ (fun e => hz (by rw [← e]))).trans h

theorem cell13 {w : World} {z : Nat} {a : Addr} {x : Option Value} (h : w.cell? a = x) (hz : z ≠ a.block) (u : M1.Upd) : (((((((((((((w.setCell ⟨z, 0, none⟩ (.int .i64 u.dr)).setCell ⟨z, 1, none⟩ (.int .i64 u.dn)).setCell ⟨z, 2, none⟩ (.int .i64 u.sw)).setCell ⟨z, 3, none⟩ (.int .i64 u.sc)).setCell ⟨z, 4, none⟩ (.int .i64 u.sr)).setCell ⟨z, 5, none⟩ (.int .i64 u.k)).setCell ⟨z, 6, none⟩ (.int .i64 u.tr)).setCell ⟨z, 7, none⟩ (.int .i64 u.id)).setCell ⟨z, 8, none⟩ (.int .i64 u.pa)).setCell ⟨z, 9, none⟩ (.string u.s)).setCell ⟨z, 10, none⟩ (.int .i64 u.st)).setCell ⟨z, 11, none⟩ (.int .i64 u.en)).setCell ⟨z, 12, none⟩ (.int .i64 u.lv)).cell? a = x :=
 cell1 (cell1 (cell1 (cell1 (cell1 (cell1 (cell1 (cell1 (cell1 (cell1 (cell1 (cell1 (cell1 h hz _) hz _) hz _) hz _) hz _) hz _) hz _) hz _) hz _) hz _) hz _) hz _) hz _

theorem nuV_s {r : M1.Rg} {x : M1.OpV} {a b c : Int} {n : Nat} (h : x.s.size ≤ maxLen) : (nuV r x a b c n).s.size ≤ maxLen := by
 unfold nuV
 split
 ·exact h
 ·split <;> exact Nat.zero_le _

def IssI (w w' : World) (e : Ending) (s0 s1 s2 s3 s4 : Addr) (p : Nat) (r : M1.Rg) (x : M1.OpV) (now : Int) : Prop :=
 (∃ k rr : Nat, Hid (M1.isC r x now = (k : Int)) ∧ 1 ≤ k ∧ k ≤ 5 ∧ e = .returned (.tuple #[.pointer none, .agg #[.int .i64 0, .int .i64 0, .int .i64 0, .int .i64 0, .int .i64 0, .int .i64 0, .int .i64 0, .int .i64 0, .int .i64 0, .string ByteArray.empty, .int .i64 0, .int .i64 0, .int .i64 0], .iface 126 (.pointer (some ⟨rr, 0, none⟩))]) ∧ Rfs w' rr (senAt s0 s1 s2 s3 s4 k) (if k = 1 then none else some ⟨p, 0, none⟩)) ∨
 (Hid (M1.isC r x now = 0) ∧ ∃ (q : Nat) (v2 : Option Addr) (c2 : Nat), e = .returned (.tuple #[.pointer (some ⟨q, 0, none⟩), .agg #[.int .i64 (M1.nuU r x now).dr, .int .i64 (M1.nuU r x now).dn, .int .i64 (M1.nuU r x now).sw, .int .i64 (M1.nuU r x now).sc, .int .i64 (M1.nuU r x now).sr, .int .i64 (M1.nuU r x now).k, .int .i64 (M1.nuU r x now).tr, .int .i64 (M1.nuU r x now).id, .int .i64 (M1.nuU r x now).pa, .string (M1.nuU r x now).s, .int .i64 (M1.nuU r x now).st, .int .i64 (M1.nuU r x now).en, .int .i64 (M1.nuU r x now).lv], .nilIface]) ∧ RgAt w' q r.id (M1.tk r now).a (M1.tk r now).b (M1.tk r now).c v2 (M1.tL r.us [M1.nuU r x now]).length c2 ∧ MU w' v2 (M1.tL r.us [M1.nuU r x now]).length c2 w.heap.size w'.heap.size (ucell (M1.tL r.us [M1.nuU r x now])))

set_option maxHeartbeats 8000000 in
set_option maxRecDepth 100000 in
theorem issue_any (p : Nat) (s0 s1 s2 s3 s4 : Addr) (r : M1.Rg) (x : M1.OpV) (now : Int) (av : Option Addr) (n cn : Nat) (w : World) (S : Sens w s0 s1 s2 s3 s4) (hP : RgAt w p r.id r.a r.b r.c av n cn) (hU : IsUpds w av n cn r.us) (hxs : x.s.size ≤ maxLen) :
  Calls Tryz.prog 45 #[.pointer (some ⟨p, 0, none⟩), .agg #[.int .i64 x.k, .int .i64 x.t, .int .i64 x.id, .int .i64 x.pa, .string x.s, .int .i64 x.st, .int .i64 x.en], .int .i64 now] w fun e w' => IssI w w' e s0 s1 s2 s3 s4 p r x now ∧ Below w.heap.size w w' := by
 have hA : Below w.heap.size w ((w.alloc (.cells #[.int .i64 x.k, .int .i64 x.t, .int .i64 x.id, .int .i64 x.pa, .string x.s, .int .i64 x.st, .int .i64 x.en] 32)).alloc (.cells #[.int .i64 0, .int .i64 0, .int .i64 0, .int .i64 0, .int .i64 0, .int .i64 0, .int .i64 0, .int .i64 0, .int .i64 0, .string ⟨#[]⟩, .int .i64 0, .int .i64 0, .int .i64 0] 38)) := ((Below.refl _ _).alloc (Nat.le_refl _) _).alloc (by simp) _
 have oA := (op_new w x 32).alloc (.cells #[.int .i64 0, .int .i64 0, .int .i64 0, .int .i64 0, .int .i64 0, .int .i64 0, .int .i64 0, .int .i64 0, .int .i64 0, .string ⟨#[]⟩, .int .i64 0, .int .i64 0, .int .i64 0] 38)
 have zA : RowAt ((w.alloc (.cells #[.int .i64 x.k, .int .i64 x.t, .int .i64 x.id, .int .i64 x.pa, .string x.s, .int .i64 x.st, .int .i64 x.en] 32)).alloc (.cells #[.int .i64 0, .int .i64 0, .int .i64 0, .int .i64 0, .int .i64 0, .int .i64 0, .int .i64 0, .int .i64 0, .int .i64 0, .string ⟨#[]⟩, .int .i64 0, .int .i64 0, .int .i64 0] 38)) (w.alloc (.cells #[.int .i64 x.k, .int .i64 x.t, .int .i64 x.id, .int .i64 x.pa, .string x.s, .int .i64 x.st, .int .i64 x.en] 32)).heap.size 13 (uq M1.zeroU) := uq_new (w.alloc (.cells #[.int .i64 x.k, .int .i64 x.t, .int .i64 x.id, .int .i64 x.pa, .string x.s, .int .i64 x.st, .int .i64 x.en] 32)) M1.zeroU 38
 rw [show (w.alloc (.cells #[.int .i64 x.k, .int .i64 x.t, .int .i64 x.id, .int .i64 x.pa, .string x.s, .int .i64 x.st, .int .i64 x.en] 32)).heap.size = w.heap.size + 1 by simp] at zA
 go_enter Tryz.func45, Tryz.ntmps45
 go_upto_region 1 with fail
 obtain ⟨W1, hW1⟩ : ∃ W, (w.alloc (.cells #[.int .i64 x.k, .int .i64 x.t, .int .i64 x.id, .int .i64 x.pa, .string x.s, .int .i64 x.st, .int .i64 x.en] 32)).alloc (.cells #[.int .i64 0, .int .i64 0, .int .i64 0, .int .i64 0, .int .i64 0, .int .i64 0, .int .i64 0, .int .i64 0, .int .i64 0, .string ⟨#[]⟩, .int .i64 0, .int .i64 0, .int .i64 0] 38) = W := ⟨_, rfl⟩
 rw [hW1] at hA oA zA ⊢
 clear hW1
 obtain ⟨g, hg⟩ : ∃ b, Hid (w.heap.size = b) := ⟨_, rfl⟩
 rw [hg.out] at oA zA ⊢
 have P1 : RgAt W1 p r.id r.a r.b r.c av n cn := hP.below hA
 obtain ⟨d0, d1, d2, d3, d4⟩ := P1.cells
 have pl := P1.lt
 obtain ⟨o1, ho1⟩ : ∃ o, Hid (M1.rOk r = o) := ⟨_, rfl⟩
 go_wp2_with fail
 refine (regionOk_impl r.id r.a r.b r.c _ _ _ _ _ (hU.below hA)).mono ?_
 rw [show M1.regOk r.id r.a r.b r.c r.us = o1 from ho1.out]
 rintro e w2 ⟨rfl, hb2⟩
 have B2 := hA.trans (hb2.mono hA.size)
 have S2 := S.below B2
 have P2 : RgAt w2 p r.id r.a r.b r.c av n cn := hP.below B2
 clear d0 d1 d2 d3 d4 P1 pl
 cases o1 with
 | false =>
  have HC : Hid (M1.isC r x now = ((1 : Nat) : Int)) := (M1.is_1 ho1.out).1
  have c0 := S2.c0
  have g1 := S2.g
  have z2 : RowAt w2 (g + 1) 13 (uq M1.zeroU) := RowAt.below zA hb2
  go_wp2_with fail
  refine wp_region_held_drew (S := fun w' => w'.cell? ⟨0, 0, none⟩ = some (es s0)) (by kernel_rfl) ?_ (fun hHeld => ?_)
  ·exact c0
  refine tZ (i:=0) (v:=?_) rfl (.inl ⟨by rfl, ?_⟩) hHeld ?_
  rotate_left
  ·(intro w hSw; (try dsimp only at hSw); go_simp; try (with_reducible rfl))
  (try simp only [Act.put, zZ])
  refine tZ (i:=1) (v:=es s0) rfl (.inl ⟨by rfl, ?_⟩) hHeld ?_
  ·(intro w hSw; (try dsimp only at hSw); go_simp; (try simp [go_sem, hSw]))
  (try simp only [Act.put, zZ])
  refine tZ (i:=2) (v:=?_) rfl (.inl ⟨by rfl, ?_⟩) hHeld ?_
  rotate_left
  ·(intro w hSw; (try dsimp only at hSw); go_simp; try (with_reducible rfl))
  (try simp only [Act.put, zZ])
  refine tZ (i:=5) (v:=?_) rfl (.inl ⟨by rfl, ?_⟩) hHeld ?_
  rotate_left
  ·(intro w hSw; (try dsimp only at hSw); go_simp; try (with_reducible rfl))
  (try simp only [Act.put, zZ])
  have g0 := S.g
  rw [hg.out] at g0
  have hzg : w.heap.size ≤ g + 1 := by rw [hg.out]; omega
  have hzG : g + 1 ≠ 0 := by omega
  obtain ⟨w3, hw3⟩ : ∃ W, w2.drew = W := ⟨_, rfl⟩
  have z3 : RowAt w3 (g + 1) 13 (uq M1.zeroU) := by rw [← hw3]; exact z2.drew
  have B3 : Below w.heap.size w w3 := by rw [← hw3]; exact B2.drew
  rw [hw3] at hHeld ⊢
  clear hw3
  have zl3 := z3.lt
  have hG3 : 0 < w3.heap.size := by omega
  refine wpAnyH_ready (rs := [3, 6]) (by kernel_rfl) (by simp) ?_
  refine AllReadyH.cons (o := _) rfl (fun K hK => ?_) (AllReadyH.cons (o := _) rfl (fun K hK => ?_) AllReadyH.nil)
  ·go_simp
   refine hK.out _ _ ((World.cell?_alloc_lt _ _ ⟨0, 0, none⟩ hG3).trans hHeld) (fun hHeld2 => ?_)
   clear hK K hHeld
   have hHeld := hHeld2
   clear hHeld2
   (try simp only [Act.put, zZ])
   have R4 : Rfs (w3.alloc (.cells #[es s0, .pointer none] 128)) w3.heap.size s0 none := rfs_new w3 s0 none
   have hA4 : Below w3.heap.size w3 (w3.alloc (.cells #[es s0, .pointer none] 128)) := (Below.refl _ _).alloc (Nat.le_refl _) _
   obtain ⟨W4, hW4⟩ : ∃ W, w3.alloc (.cells #[es s0, .pointer none] 128) = W := ⟨_, rfl⟩
   rw [hW4] at R4 hA4 hHeld ⊢
   clear hW4
   have B4 := B3.trans (hA4.mono B3.size)
   have z4 : RowAt W4 (g + 1) 13 (uq M1.zeroU) := RowAt.below z3 hA4
   have hrg : g + 1 ≠ w3.heap.size := by omega
   refine tZ (i:=4) (v:=?_) rfl (.inl ⟨by rfl, ?_⟩) hHeld ?_
   rotate_left
   ·(intro w hSw; (try dsimp only at hSw); go_simp; try (with_reducible rfl))
   (try simp only [Act.put, zZ])
   obtain ⟨y0, y1, y2, y3, y4, y5, y6, y7, y8, y9, y10, y11, y12⟩ := uq_cells z4
   obtain ⟨f0, f1, f2, f3, f4, f5, f6, f7, f8, f9, f10, f11, f12⟩ := uq_free z4
   have zl4 := z4.lt
   refine wpAnyH_ready (rs := [6]) (by kernel_rfl) (by simp) ?_
   refine AllReadyH.cons (o := _) rfl (fun K hK => ?_) AllReadyH.nil
   go_simp
   skip
   refine hK.out _ _ ?_ (fun hHeld2 => ?_)
   ·exact cell13 hHeld hzG M1.zeroU
   clear hK K hHeld
   have hHeld := hHeld2
   clear hHeld2
   (try simp only [Act.put, zZ])
   refine tZ (i:=7) (v:=?_) rfl (.inl ⟨by rfl, ?_⟩) hHeld ?_
   rotate_left
   ·(intro w hSw; (try dsimp only at hSw); go_simp; try (with_reducible rfl))
   (try simp only [Act.put, zZ])
   refine wpAnyH_done (by kernel_rfl) ?_ _
   have zz : RowAt (((((((((((((W4.setCell ⟨g + 1, 0, none⟩ (.int .i64 0)).setCell ⟨g + 1, 1, none⟩ (.int .i64 0)).setCell ⟨g + 1, 2, none⟩ (.int .i64 0)).setCell ⟨g + 1, 3, none⟩ (.int .i64 0)).setCell ⟨g + 1, 4, none⟩ (.int .i64 0)).setCell ⟨g + 1, 5, none⟩ (.int .i64 0)).setCell ⟨g + 1, 6, none⟩ (.int .i64 0)).setCell ⟨g + 1, 7, none⟩ (.int .i64 0)).setCell ⟨g + 1, 8, none⟩ (.int .i64 0)).setCell ⟨g + 1, 9, none⟩ (.string ⟨#[]⟩)).setCell ⟨g + 1, 10, none⟩ (.int .i64 0)).setCell ⟨g + 1, 11, none⟩ (.int .i64 0)).setCell ⟨g + 1, 12, none⟩ (.int .i64 0)) (g + 1) 13 (uq M1.zeroU) := uq_put z4 M1.zeroU
   have BB : Below w.heap.size w (((((((((((((W4.setCell ⟨g + 1, 0, none⟩ (.int .i64 0)).setCell ⟨g + 1, 1, none⟩ (.int .i64 0)).setCell ⟨g + 1, 2, none⟩ (.int .i64 0)).setCell ⟨g + 1, 3, none⟩ (.int .i64 0)).setCell ⟨g + 1, 4, none⟩ (.int .i64 0)).setCell ⟨g + 1, 5, none⟩ (.int .i64 0)).setCell ⟨g + 1, 6, none⟩ (.int .i64 0)).setCell ⟨g + 1, 7, none⟩ (.int .i64 0)).setCell ⟨g + 1, 8, none⟩ (.int .i64 0)).setCell ⟨g + 1, 9, none⟩ (.string ⟨#[]⟩)).setCell ⟨g + 1, 10, none⟩ (.int .i64 0)).setCell ⟨g + 1, 11, none⟩ (.int .i64 0)).setCell ⟨g + 1, 12, none⟩ (.int .i64 0)) := bel_put B4 hzg M1.zeroU
   have hR2 : Rfs (((((((((((((W4.setCell ⟨g + 1, 0, none⟩ (.int .i64 0)).setCell ⟨g + 1, 1, none⟩ (.int .i64 0)).setCell ⟨g + 1, 2, none⟩ (.int .i64 0)).setCell ⟨g + 1, 3, none⟩ (.int .i64 0)).setCell ⟨g + 1, 4, none⟩ (.int .i64 0)).setCell ⟨g + 1, 5, none⟩ (.int .i64 0)).setCell ⟨g + 1, 6, none⟩ (.int .i64 0)).setCell ⟨g + 1, 7, none⟩ (.int .i64 0)).setCell ⟨g + 1, 8, none⟩ (.int .i64 0)).setCell ⟨g + 1, 9, none⟩ (.string ⟨#[]⟩)).setCell ⟨g + 1, 10, none⟩ (.int .i64 0)).setCell ⟨g + 1, 11, none⟩ (.int .i64 0)).setCell ⟨g + 1, 12, none⟩ (.int .i64 0)) w3.heap.size s0 none := far13 R4 hrg M1.zeroU
   clear y0 y1 y2 y3 y4 y5 y6 y7 y8 y9 y10 y11 y12 f0 f1 f2 f3 f4 f5 f6 f7 f8 f9 f10 f11 f12 hHeld
   go_wp2_with fail
   obtain ⟨W5, hW5⟩ : ∃ W, (((((((((((((W4.setCell ⟨g + 1, 0, none⟩ (.int .i64 0)).setCell ⟨g + 1, 1, none⟩ (.int .i64 0)).setCell ⟨g + 1, 2, none⟩ (.int .i64 0)).setCell ⟨g + 1, 3, none⟩ (.int .i64 0)).setCell ⟨g + 1, 4, none⟩ (.int .i64 0)).setCell ⟨g + 1, 5, none⟩ (.int .i64 0)).setCell ⟨g + 1, 6, none⟩ (.int .i64 0)).setCell ⟨g + 1, 7, none⟩ (.int .i64 0)).setCell ⟨g + 1, 8, none⟩ (.int .i64 0)).setCell ⟨g + 1, 9, none⟩ (.string ⟨#[]⟩)).setCell ⟨g + 1, 10, none⟩ (.int .i64 0)).setCell ⟨g + 1, 11, none⟩ (.int .i64 0)).setCell ⟨g + 1, 12, none⟩ (.int .i64 0)) = W := ⟨_, rfl⟩
   rw [hW5] at zz BB hR2 ⊢
   clear hW5
   obtain ⟨v0, v1, v2, v3, v4, v5, v6, v7, v8, v9, v10, v11, v12⟩ := uq_cells zz
   unfold M1.zeroU at v0 v1 v2 v3 v4 v5 v6 v7 v8 v9 v10 v11 v12
   refine bodyPost_ret (v := .tuple #[.pointer none, .agg #[.int .i64 0, .int .i64 0, .int .i64 0, .int .i64 0, .int .i64 0, .int .i64 0, .int .i64 0, .int .i64 0, .int .i64 0, .string ByteArray.empty, .int .i64 0, .int .i64 0, .int .i64 0], .iface 126 (.pointer (some ⟨w3.heap.size, 0, none⟩))]) (by simp [results, Tryz.results45, go_sem, v0, v1, v2, v3, v4, v5, v6, v7, v8, v9, v10, v11, v12]) rfl ?_
   exact ⟨.inl ⟨1, w3.heap.size, HC, by omega, by omega, rfl, hR2⟩, BB⟩
  ·obtain ⟨y0, y1, y2, y3, y4, y5, y6, y7, y8, y9, y10, y11, y12⟩ := uq_cells z3
   obtain ⟨f0, f1, f2, f3, f4, f5, f6, f7, f8, f9, f10, f11, f12⟩ := uq_free z3
   go_simp
   refine hK.out _ _ (cell13 hHeld hzG M1.zeroU) (fun hHeld2 => ?_)
   clear hK K hHeld
   have hHeld := hHeld2
   clear hHeld2
   (try simp only [Act.put, zZ])
   have z4 : RowAt (((((((((((((w3.setCell ⟨g + 1, 0, none⟩ (.int .i64 0)).setCell ⟨g + 1, 1, none⟩ (.int .i64 0)).setCell ⟨g + 1, 2, none⟩ (.int .i64 0)).setCell ⟨g + 1, 3, none⟩ (.int .i64 0)).setCell ⟨g + 1, 4, none⟩ (.int .i64 0)).setCell ⟨g + 1, 5, none⟩ (.int .i64 0)).setCell ⟨g + 1, 6, none⟩ (.int .i64 0)).setCell ⟨g + 1, 7, none⟩ (.int .i64 0)).setCell ⟨g + 1, 8, none⟩ (.int .i64 0)).setCell ⟨g + 1, 9, none⟩ (.string ⟨#[]⟩)).setCell ⟨g + 1, 10, none⟩ (.int .i64 0)).setCell ⟨g + 1, 11, none⟩ (.int .i64 0)).setCell ⟨g + 1, 12, none⟩ (.int .i64 0)) (g + 1) 13 (uq M1.zeroU) := uq_put z3 M1.zeroU
   have B4 : Below w.heap.size w (((((((((((((w3.setCell ⟨g + 1, 0, none⟩ (.int .i64 0)).setCell ⟨g + 1, 1, none⟩ (.int .i64 0)).setCell ⟨g + 1, 2, none⟩ (.int .i64 0)).setCell ⟨g + 1, 3, none⟩ (.int .i64 0)).setCell ⟨g + 1, 4, none⟩ (.int .i64 0)).setCell ⟨g + 1, 5, none⟩ (.int .i64 0)).setCell ⟨g + 1, 6, none⟩ (.int .i64 0)).setCell ⟨g + 1, 7, none⟩ (.int .i64 0)).setCell ⟨g + 1, 8, none⟩ (.int .i64 0)).setCell ⟨g + 1, 9, none⟩ (.string ⟨#[]⟩)).setCell ⟨g + 1, 10, none⟩ (.int .i64 0)).setCell ⟨g + 1, 11, none⟩ (.int .i64 0)).setCell ⟨g + 1, 12, none⟩ (.int .i64 0)) := bel_put B3 hzg M1.zeroU
   have s4 : w3.heap.size ≤ (((((((((((((w3.setCell ⟨g + 1, 0, none⟩ (.int .i64 0)).setCell ⟨g + 1, 1, none⟩ (.int .i64 0)).setCell ⟨g + 1, 2, none⟩ (.int .i64 0)).setCell ⟨g + 1, 3, none⟩ (.int .i64 0)).setCell ⟨g + 1, 4, none⟩ (.int .i64 0)).setCell ⟨g + 1, 5, none⟩ (.int .i64 0)).setCell ⟨g + 1, 6, none⟩ (.int .i64 0)).setCell ⟨g + 1, 7, none⟩ (.int .i64 0)).setCell ⟨g + 1, 8, none⟩ (.int .i64 0)).setCell ⟨g + 1, 9, none⟩ (.string ⟨#[]⟩)).setCell ⟨g + 1, 10, none⟩ (.int .i64 0)).setCell ⟨g + 1, 11, none⟩ (.int .i64 0)).setCell ⟨g + 1, 12, none⟩ (.int .i64 0)).heap.size := (bel_put (Below.refl 0 w3) (Nat.zero_le _) M1.zeroU).size
   clear y0 y1 y2 y3 y4 y5 y6 y7 y8 y9 y10 y11 y12 f0 f1 f2 f3 f4 f5 f6 f7 f8 f9 f10 f11 f12
   obtain ⟨W4, hW4⟩ : ∃ W, (((((((((((((w3.setCell ⟨g + 1, 0, none⟩ (.int .i64 0)).setCell ⟨g + 1, 1, none⟩ (.int .i64 0)).setCell ⟨g + 1, 2, none⟩ (.int .i64 0)).setCell ⟨g + 1, 3, none⟩ (.int .i64 0)).setCell ⟨g + 1, 4, none⟩ (.int .i64 0)).setCell ⟨g + 1, 5, none⟩ (.int .i64 0)).setCell ⟨g + 1, 6, none⟩ (.int .i64 0)).setCell ⟨g + 1, 7, none⟩ (.int .i64 0)).setCell ⟨g + 1, 8, none⟩ (.int .i64 0)).setCell ⟨g + 1, 9, none⟩ (.string ⟨#[]⟩)).setCell ⟨g + 1, 10, none⟩ (.int .i64 0)).setCell ⟨g + 1, 11, none⟩ (.int .i64 0)).setCell ⟨g + 1, 12, none⟩ (.int .i64 0)) = W := ⟨_, rfl⟩
   rw [hW4] at hHeld z4 B4 s4 ⊢
   clear hW4
   have hG4 : 0 < W4.heap.size := by omega
   refine wpAnyH_ready (rs := [3]) (by kernel_rfl) (by simp) ?_
   refine AllReadyH.cons (o := _) rfl (fun K hK => ?_) AllReadyH.nil
   go_simp
   skip
   refine hK.out _ _ ?_ (fun hHeld2 => ?_)
   ·exact (World.cell?_alloc_lt _ _ ⟨0, 0, none⟩ hG4).trans hHeld
   clear hK K hHeld
   have hHeld := hHeld2
   clear hHeld2
   (try simp only [Act.put, zZ])
   have hR2 : Rfs (W4.alloc (.cells #[es s0, .pointer none] 128)) W4.heap.size s0 none := rfs_new W4 s0 none
   have zz : RowAt (W4.alloc (.cells #[es s0, .pointer none] 128)) (g + 1) 13 (uq M1.zeroU) := z4.alloc _
   have BB : Below w.heap.size w (W4.alloc (.cells #[es s0, .pointer none] 128)) := B4.alloc B4.size _
   refine tZ (i:=4) (v:=?_) rfl (.inl ⟨by rfl, ?_⟩) hHeld ?_
   rotate_left
   ·(intro w hSw; (try dsimp only at hSw); go_simp; try (with_reducible rfl))
   (try simp only [Act.put, zZ])
   refine tZ (i:=7) (v:=?_) rfl (.inl ⟨by rfl, ?_⟩) hHeld ?_
   rotate_left
   ·(intro w hSw; (try dsimp only at hSw); go_simp; try (with_reducible rfl))
   (try simp only [Act.put, zZ])
   refine wpAnyH_done (by kernel_rfl) ?_ _
   clear hHeld
   go_wp2_with fail
   obtain ⟨W5, hW5⟩ : ∃ W, W4.alloc (.cells #[es s0, .pointer none] 128) = W := ⟨_, rfl⟩
   rw [hW5] at zz BB hR2 ⊢
   clear hW5
   obtain ⟨v0, v1, v2, v3, v4, v5, v6, v7, v8, v9, v10, v11, v12⟩ := uq_cells zz
   unfold M1.zeroU at v0 v1 v2 v3 v4 v5 v6 v7 v8 v9 v10 v11 v12
   refine bodyPost_ret (v := .tuple #[.pointer none, .agg #[.int .i64 0, .int .i64 0, .int .i64 0, .int .i64 0, .int .i64 0, .int .i64 0, .int .i64 0, .int .i64 0, .int .i64 0, .string ByteArray.empty, .int .i64 0, .int .i64 0, .int .i64 0], .iface 126 (.pointer (some ⟨W4.heap.size, 0, none⟩))]) (by simp [results, Tryz.results45, go_sem, v0, v1, v2, v3, v4, v5, v6, v7, v8, v9, v10, v11, v12]) rfl ?_
   exact ⟨.inl ⟨1, W4.heap.size, HC, by omega, by omega, rfl, hR2⟩, BB⟩
 | true =>
  obtain ⟨o2, ho2⟩ : ∃ o, Hid (M1.inB now 0 1000000000 = o) := ⟨_, rfl⟩
  go_wp2_with fail
  refine (timeOk_any _ _).mono ?_
  rw [ho2.out]
  rintro e w2t ⟨rfl, rfl⟩
  cases o2 with
  | false =>
   have HC : Hid (M1.isC r x now = ((2 : Nat) : Int)) := (M1.is_2 ho1.out (M1.isF_1 ho2.out)).1
   have c1' := S2.c1
   have g1 := S2.g
   have zR : RowAt w2t (g + 1) 13 (uq M1.zeroU) := RowAt.below zA (hb2)
   go_wp2_with fail
   refine (refuse_any ⟨p, 0, none⟩ s1 _).mono ?_
   rintro e wR ⟨rr, rfl, hR, hrr, hbR⟩
   have BR := B2.trans (hbR.mono B2.size)
   have z4 : RowAt wR (g + 1) 13 (uq M1.zeroU) := RowAt.below zR hbR
   have hzg : w.heap.size ≤ g + 1 := by rw [hg.out]; omega
   have hrg : g + 1 ≠ rr := by have := zR.lt; omega
   have zz : RowAt (((((((((((((wR.setCell ⟨g + 1, 0, none⟩ (.int .i64 0)).setCell ⟨g + 1, 1, none⟩ (.int .i64 0)).setCell ⟨g + 1, 2, none⟩ (.int .i64 0)).setCell ⟨g + 1, 3, none⟩ (.int .i64 0)).setCell ⟨g + 1, 4, none⟩ (.int .i64 0)).setCell ⟨g + 1, 5, none⟩ (.int .i64 0)).setCell ⟨g + 1, 6, none⟩ (.int .i64 0)).setCell ⟨g + 1, 7, none⟩ (.int .i64 0)).setCell ⟨g + 1, 8, none⟩ (.int .i64 0)).setCell ⟨g + 1, 9, none⟩ (.string ⟨#[]⟩)).setCell ⟨g + 1, 10, none⟩ (.int .i64 0)).setCell ⟨g + 1, 11, none⟩ (.int .i64 0)).setCell ⟨g + 1, 12, none⟩ (.int .i64 0)) (g + 1) 13 (uq M1.zeroU) := uq_put z4 M1.zeroU
   have BB : Below w.heap.size w (((((((((((((wR.setCell ⟨g + 1, 0, none⟩ (.int .i64 0)).setCell ⟨g + 1, 1, none⟩ (.int .i64 0)).setCell ⟨g + 1, 2, none⟩ (.int .i64 0)).setCell ⟨g + 1, 3, none⟩ (.int .i64 0)).setCell ⟨g + 1, 4, none⟩ (.int .i64 0)).setCell ⟨g + 1, 5, none⟩ (.int .i64 0)).setCell ⟨g + 1, 6, none⟩ (.int .i64 0)).setCell ⟨g + 1, 7, none⟩ (.int .i64 0)).setCell ⟨g + 1, 8, none⟩ (.int .i64 0)).setCell ⟨g + 1, 9, none⟩ (.string ⟨#[]⟩)).setCell ⟨g + 1, 10, none⟩ (.int .i64 0)).setCell ⟨g + 1, 11, none⟩ (.int .i64 0)).setCell ⟨g + 1, 12, none⟩ (.int .i64 0)) := bel_put BR hzg M1.zeroU
   have hR2 : Rfs (((((((((((((wR.setCell ⟨g + 1, 0, none⟩ (.int .i64 0)).setCell ⟨g + 1, 1, none⟩ (.int .i64 0)).setCell ⟨g + 1, 2, none⟩ (.int .i64 0)).setCell ⟨g + 1, 3, none⟩ (.int .i64 0)).setCell ⟨g + 1, 4, none⟩ (.int .i64 0)).setCell ⟨g + 1, 5, none⟩ (.int .i64 0)).setCell ⟨g + 1, 6, none⟩ (.int .i64 0)).setCell ⟨g + 1, 7, none⟩ (.int .i64 0)).setCell ⟨g + 1, 8, none⟩ (.int .i64 0)).setCell ⟨g + 1, 9, none⟩ (.string ⟨#[]⟩)).setCell ⟨g + 1, 10, none⟩ (.int .i64 0)).setCell ⟨g + 1, 11, none⟩ (.int .i64 0)).setCell ⟨g + 1, 12, none⟩ (.int .i64 0)) rr s1 (some ⟨p, 0, none⟩) := far13 hR hrg M1.zeroU
   obtain ⟨y0, y1, y2, y3, y4, y5, y6, y7, y8, y9, y10, y11, y12⟩ := uq_cells z4
   obtain ⟨f0, f1, f2, f3, f4, f5, f6, f7, f8, f9, f10, f11, f12⟩ := uq_free z4
   have zl4 := z4.lt
   go_wp2_with fail
   clear y0 y1 y2 y3 y4 y5 y6 y7 y8 y9 y10 y11 y12 f0 f1 f2 f3 f4 f5 f6 f7 f8 f9 f10 f11 f12
   obtain ⟨W5, hW5⟩ : ∃ W, (((((((((((((wR.setCell ⟨g + 1, 0, none⟩ (.int .i64 0)).setCell ⟨g + 1, 1, none⟩ (.int .i64 0)).setCell ⟨g + 1, 2, none⟩ (.int .i64 0)).setCell ⟨g + 1, 3, none⟩ (.int .i64 0)).setCell ⟨g + 1, 4, none⟩ (.int .i64 0)).setCell ⟨g + 1, 5, none⟩ (.int .i64 0)).setCell ⟨g + 1, 6, none⟩ (.int .i64 0)).setCell ⟨g + 1, 7, none⟩ (.int .i64 0)).setCell ⟨g + 1, 8, none⟩ (.int .i64 0)).setCell ⟨g + 1, 9, none⟩ (.string ⟨#[]⟩)).setCell ⟨g + 1, 10, none⟩ (.int .i64 0)).setCell ⟨g + 1, 11, none⟩ (.int .i64 0)).setCell ⟨g + 1, 12, none⟩ (.int .i64 0)) = W := ⟨_, rfl⟩
   rw [hW5] at zz BB hR2 ⊢
   clear hW5
   obtain ⟨v0, v1, v2, v3, v4, v5, v6, v7, v8, v9, v10, v11, v12⟩ := uq_cells zz
   unfold M1.zeroU at v0 v1 v2 v3 v4 v5 v6 v7 v8 v9 v10 v11 v12
   refine bodyPost_ret (v := .tuple #[.pointer none, .agg #[.int .i64 0, .int .i64 0, .int .i64 0, .int .i64 0, .int .i64 0, .int .i64 0, .int .i64 0, .int .i64 0, .int .i64 0, .string ByteArray.empty, .int .i64 0, .int .i64 0, .int .i64 0], .iface 126 (.pointer (some ⟨rr, 0, none⟩))]) (by simp [results, Tryz.results45, go_sem, v0, v1, v2, v3, v4, v5, v6, v7, v8, v9, v10, v11, v12]) rfl ?_
   exact ⟨.inl ⟨2, rr, HC, by omega, by omega, rfl, hR2⟩, BB⟩
  | true =>
   obtain ⟨o3, ho3⟩ : ∃ o, Hid (M1.opB x = o) := ⟨_, rfl⟩
   obtain ⟨c0, c1, c2, c3, c4, c5, c6⟩ := OpAt.cells (x := x) (RowAt.below oA hb2)
   have ol := (RowAt.below oA hb2).lt
   go_wp2_with fail
   refine (opOk_any x.k x.t x.id x.pa x.st x.en x.s _ hxs).mono ?_
   rw [show M1.opB ⟨x.k, x.t, x.id, x.pa, x.s, x.st, x.en⟩ = o3 from ho3.out]
   rintro e w3 ⟨rfl, hb3⟩
   have b3 := hb2.trans (hb3.mono hb2.size)
   have B3 := hA.trans (b3.mono hA.size)
   have S3 := S.below B3
   clear c0 c1 c2 c3 c4 c5 c6 ol S2 P2
   cases o3 with
   | false =>
    have HC : Hid (M1.isC r x now = ((2 : Nat) : Int)) := (M1.is_2 ho1.out (M1.isF_2 ho3.out)).1
    have c1' := S3.c1
    have g1 := S3.g
    have zR : RowAt w3 (g + 1) 13 (uq M1.zeroU) := RowAt.below zA (b3)
    go_wp2_with fail
    refine (refuse_any ⟨p, 0, none⟩ s1 _).mono ?_
    rintro e wR ⟨rr, rfl, hR, hrr, hbR⟩
    have BR := B3.trans (hbR.mono B3.size)
    have z4 : RowAt wR (g + 1) 13 (uq M1.zeroU) := RowAt.below zR hbR
    have hzg : w.heap.size ≤ g + 1 := by rw [hg.out]; omega
    have hrg : g + 1 ≠ rr := by have := zR.lt; omega
    have zz : RowAt (((((((((((((wR.setCell ⟨g + 1, 0, none⟩ (.int .i64 0)).setCell ⟨g + 1, 1, none⟩ (.int .i64 0)).setCell ⟨g + 1, 2, none⟩ (.int .i64 0)).setCell ⟨g + 1, 3, none⟩ (.int .i64 0)).setCell ⟨g + 1, 4, none⟩ (.int .i64 0)).setCell ⟨g + 1, 5, none⟩ (.int .i64 0)).setCell ⟨g + 1, 6, none⟩ (.int .i64 0)).setCell ⟨g + 1, 7, none⟩ (.int .i64 0)).setCell ⟨g + 1, 8, none⟩ (.int .i64 0)).setCell ⟨g + 1, 9, none⟩ (.string ⟨#[]⟩)).setCell ⟨g + 1, 10, none⟩ (.int .i64 0)).setCell ⟨g + 1, 11, none⟩ (.int .i64 0)).setCell ⟨g + 1, 12, none⟩ (.int .i64 0)) (g + 1) 13 (uq M1.zeroU) := uq_put z4 M1.zeroU
    have BB : Below w.heap.size w (((((((((((((wR.setCell ⟨g + 1, 0, none⟩ (.int .i64 0)).setCell ⟨g + 1, 1, none⟩ (.int .i64 0)).setCell ⟨g + 1, 2, none⟩ (.int .i64 0)).setCell ⟨g + 1, 3, none⟩ (.int .i64 0)).setCell ⟨g + 1, 4, none⟩ (.int .i64 0)).setCell ⟨g + 1, 5, none⟩ (.int .i64 0)).setCell ⟨g + 1, 6, none⟩ (.int .i64 0)).setCell ⟨g + 1, 7, none⟩ (.int .i64 0)).setCell ⟨g + 1, 8, none⟩ (.int .i64 0)).setCell ⟨g + 1, 9, none⟩ (.string ⟨#[]⟩)).setCell ⟨g + 1, 10, none⟩ (.int .i64 0)).setCell ⟨g + 1, 11, none⟩ (.int .i64 0)).setCell ⟨g + 1, 12, none⟩ (.int .i64 0)) := bel_put BR hzg M1.zeroU
    have hR2 : Rfs (((((((((((((wR.setCell ⟨g + 1, 0, none⟩ (.int .i64 0)).setCell ⟨g + 1, 1, none⟩ (.int .i64 0)).setCell ⟨g + 1, 2, none⟩ (.int .i64 0)).setCell ⟨g + 1, 3, none⟩ (.int .i64 0)).setCell ⟨g + 1, 4, none⟩ (.int .i64 0)).setCell ⟨g + 1, 5, none⟩ (.int .i64 0)).setCell ⟨g + 1, 6, none⟩ (.int .i64 0)).setCell ⟨g + 1, 7, none⟩ (.int .i64 0)).setCell ⟨g + 1, 8, none⟩ (.int .i64 0)).setCell ⟨g + 1, 9, none⟩ (.string ⟨#[]⟩)).setCell ⟨g + 1, 10, none⟩ (.int .i64 0)).setCell ⟨g + 1, 11, none⟩ (.int .i64 0)).setCell ⟨g + 1, 12, none⟩ (.int .i64 0)) rr s1 (some ⟨p, 0, none⟩) := far13 hR hrg M1.zeroU
    obtain ⟨y0, y1, y2, y3, y4, y5, y6, y7, y8, y9, y10, y11, y12⟩ := uq_cells z4
    obtain ⟨f0, f1, f2, f3, f4, f5, f6, f7, f8, f9, f10, f11, f12⟩ := uq_free z4
    have zl4 := z4.lt
    go_wp2_with fail
    clear y0 y1 y2 y3 y4 y5 y6 y7 y8 y9 y10 y11 y12 f0 f1 f2 f3 f4 f5 f6 f7 f8 f9 f10 f11 f12
    obtain ⟨W5, hW5⟩ : ∃ W, (((((((((((((wR.setCell ⟨g + 1, 0, none⟩ (.int .i64 0)).setCell ⟨g + 1, 1, none⟩ (.int .i64 0)).setCell ⟨g + 1, 2, none⟩ (.int .i64 0)).setCell ⟨g + 1, 3, none⟩ (.int .i64 0)).setCell ⟨g + 1, 4, none⟩ (.int .i64 0)).setCell ⟨g + 1, 5, none⟩ (.int .i64 0)).setCell ⟨g + 1, 6, none⟩ (.int .i64 0)).setCell ⟨g + 1, 7, none⟩ (.int .i64 0)).setCell ⟨g + 1, 8, none⟩ (.int .i64 0)).setCell ⟨g + 1, 9, none⟩ (.string ⟨#[]⟩)).setCell ⟨g + 1, 10, none⟩ (.int .i64 0)).setCell ⟨g + 1, 11, none⟩ (.int .i64 0)).setCell ⟨g + 1, 12, none⟩ (.int .i64 0)) = W := ⟨_, rfl⟩
    rw [hW5] at zz BB hR2 ⊢
    clear hW5
    obtain ⟨v0, v1, v2, v3, v4, v5, v6, v7, v8, v9, v10, v11, v12⟩ := uq_cells zz
    unfold M1.zeroU at v0 v1 v2 v3 v4 v5 v6 v7 v8 v9 v10 v11 v12
    refine bodyPost_ret (v := .tuple #[.pointer none, .agg #[.int .i64 0, .int .i64 0, .int .i64 0, .int .i64 0, .int .i64 0, .int .i64 0, .int .i64 0, .int .i64 0, .int .i64 0, .string ByteArray.empty, .int .i64 0, .int .i64 0, .int .i64 0], .iface 126 (.pointer (some ⟨rr, 0, none⟩))]) (by simp [results, Tryz.results45, go_sem, v0, v1, v2, v3, v4, v5, v6, v7, v8, v9, v10, v11, v12]) rfl ?_
    exact ⟨.inl ⟨2, rr, HC, by omega, by omega, rfl, hR2⟩, BB⟩
   | true =>
    have HF : Hid (M1.isF x now = false) := M1.isF_0 ho2.out ho3.out
    have hset : Hid (M1.setOk r.us = true) := M1.rOk_set ho1.out
    obtain ⟨o4, ho4⟩ : ∃ o, Hid (M1.letsB r.us x = o) := ⟨_, rfl⟩
    have P3 : RgAt w3 p r.id r.a r.b r.c av n cn := hP.below B3
    obtain ⟨c0, c1, c2, c3, c4, c5, c6⟩ := OpAt.cells (x := x) (RowAt.below oA b3)
    have ol := (RowAt.below oA b3).lt
    go_wp2_with fail
    refine (lets_any p r x av n cn _ P3 (hU.below B3) hset).mono ?_
    rw [ho4.out]
    rintro e w4 ⟨rfl, hb4⟩
    have b4 := b3.trans (hb4.mono b3.size)
    have B4 := hA.trans (b4.mono hA.size)
    have S4 := S.below B4
    clear c0 c1 c2 c3 c4 c5 c6 ol S3 P3
    cases o4 with
    | false =>
     have HC : Hid (M1.isC r x now = ((5 : Nat) : Int)) := (M1.is_5 ho1.out HF.out ho4.out).1
     have c2' := S4.c2
     have g1 := S4.g
     have zR : RowAt w4 (g + 1) 13 (uq M1.zeroU) := RowAt.below zA (b4)
     go_wp2_with fail
     refine (refuse_any ⟨p, 0, none⟩ s2 _).mono ?_
     rintro e wR ⟨rr, rfl, hR, hrr, hbR⟩
     have BR := B4.trans (hbR.mono B4.size)
     have z4 : RowAt wR (g + 1) 13 (uq M1.zeroU) := RowAt.below zR hbR
     have hzg : w.heap.size ≤ g + 1 := by rw [hg.out]; omega
     have hrg : g + 1 ≠ rr := by have := zR.lt; omega
     have zz : RowAt (((((((((((((wR.setCell ⟨g + 1, 0, none⟩ (.int .i64 0)).setCell ⟨g + 1, 1, none⟩ (.int .i64 0)).setCell ⟨g + 1, 2, none⟩ (.int .i64 0)).setCell ⟨g + 1, 3, none⟩ (.int .i64 0)).setCell ⟨g + 1, 4, none⟩ (.int .i64 0)).setCell ⟨g + 1, 5, none⟩ (.int .i64 0)).setCell ⟨g + 1, 6, none⟩ (.int .i64 0)).setCell ⟨g + 1, 7, none⟩ (.int .i64 0)).setCell ⟨g + 1, 8, none⟩ (.int .i64 0)).setCell ⟨g + 1, 9, none⟩ (.string ⟨#[]⟩)).setCell ⟨g + 1, 10, none⟩ (.int .i64 0)).setCell ⟨g + 1, 11, none⟩ (.int .i64 0)).setCell ⟨g + 1, 12, none⟩ (.int .i64 0)) (g + 1) 13 (uq M1.zeroU) := uq_put z4 M1.zeroU
     have BB : Below w.heap.size w (((((((((((((wR.setCell ⟨g + 1, 0, none⟩ (.int .i64 0)).setCell ⟨g + 1, 1, none⟩ (.int .i64 0)).setCell ⟨g + 1, 2, none⟩ (.int .i64 0)).setCell ⟨g + 1, 3, none⟩ (.int .i64 0)).setCell ⟨g + 1, 4, none⟩ (.int .i64 0)).setCell ⟨g + 1, 5, none⟩ (.int .i64 0)).setCell ⟨g + 1, 6, none⟩ (.int .i64 0)).setCell ⟨g + 1, 7, none⟩ (.int .i64 0)).setCell ⟨g + 1, 8, none⟩ (.int .i64 0)).setCell ⟨g + 1, 9, none⟩ (.string ⟨#[]⟩)).setCell ⟨g + 1, 10, none⟩ (.int .i64 0)).setCell ⟨g + 1, 11, none⟩ (.int .i64 0)).setCell ⟨g + 1, 12, none⟩ (.int .i64 0)) := bel_put BR hzg M1.zeroU
     have hR2 : Rfs (((((((((((((wR.setCell ⟨g + 1, 0, none⟩ (.int .i64 0)).setCell ⟨g + 1, 1, none⟩ (.int .i64 0)).setCell ⟨g + 1, 2, none⟩ (.int .i64 0)).setCell ⟨g + 1, 3, none⟩ (.int .i64 0)).setCell ⟨g + 1, 4, none⟩ (.int .i64 0)).setCell ⟨g + 1, 5, none⟩ (.int .i64 0)).setCell ⟨g + 1, 6, none⟩ (.int .i64 0)).setCell ⟨g + 1, 7, none⟩ (.int .i64 0)).setCell ⟨g + 1, 8, none⟩ (.int .i64 0)).setCell ⟨g + 1, 9, none⟩ (.string ⟨#[]⟩)).setCell ⟨g + 1, 10, none⟩ (.int .i64 0)).setCell ⟨g + 1, 11, none⟩ (.int .i64 0)).setCell ⟨g + 1, 12, none⟩ (.int .i64 0)) rr s2 (some ⟨p, 0, none⟩) := far13 hR hrg M1.zeroU
     obtain ⟨y0, y1, y2, y3, y4, y5, y6, y7, y8, y9, y10, y11, y12⟩ := uq_cells z4
     obtain ⟨f0, f1, f2, f3, f4, f5, f6, f7, f8, f9, f10, f11, f12⟩ := uq_free z4
     have zl4 := z4.lt
     go_wp2_with fail
     clear y0 y1 y2 y3 y4 y5 y6 y7 y8 y9 y10 y11 y12 f0 f1 f2 f3 f4 f5 f6 f7 f8 f9 f10 f11 f12
     obtain ⟨W5, hW5⟩ : ∃ W, (((((((((((((wR.setCell ⟨g + 1, 0, none⟩ (.int .i64 0)).setCell ⟨g + 1, 1, none⟩ (.int .i64 0)).setCell ⟨g + 1, 2, none⟩ (.int .i64 0)).setCell ⟨g + 1, 3, none⟩ (.int .i64 0)).setCell ⟨g + 1, 4, none⟩ (.int .i64 0)).setCell ⟨g + 1, 5, none⟩ (.int .i64 0)).setCell ⟨g + 1, 6, none⟩ (.int .i64 0)).setCell ⟨g + 1, 7, none⟩ (.int .i64 0)).setCell ⟨g + 1, 8, none⟩ (.int .i64 0)).setCell ⟨g + 1, 9, none⟩ (.string ⟨#[]⟩)).setCell ⟨g + 1, 10, none⟩ (.int .i64 0)).setCell ⟨g + 1, 11, none⟩ (.int .i64 0)).setCell ⟨g + 1, 12, none⟩ (.int .i64 0)) = W := ⟨_, rfl⟩
     rw [hW5] at zz BB hR2 ⊢
     clear hW5
     obtain ⟨v0, v1, v2, v3, v4, v5, v6, v7, v8, v9, v10, v11, v12⟩ := uq_cells zz
     unfold M1.zeroU at v0 v1 v2 v3 v4 v5 v6 v7 v8 v9 v10 v11 v12
     refine bodyPost_ret (v := .tuple #[.pointer none, .agg #[.int .i64 0, .int .i64 0, .int .i64 0, .int .i64 0, .int .i64 0, .int .i64 0, .int .i64 0, .int .i64 0, .int .i64 0, .string ByteArray.empty, .int .i64 0, .int .i64 0, .int .i64 0], .iface 126 (.pointer (some ⟨rr, 0, none⟩))]) (by simp [results, Tryz.results45, go_sem, v0, v1, v2, v3, v4, v5, v6, v7, v8, v9, v10, v11, v12]) rfl ?_
     exact ⟨.inl ⟨5, rr, HC, by omega, by omega, rfl, hR2⟩, BB⟩
    | true =>
     obtain ⟨o5, ho5⟩ : ∃ o, Hid ((M1.tickP r.a r.b r.c now).ok = o) := ⟨_, rfl⟩
     have P4 : RgAt w4 p r.id r.a r.b r.c av n cn := hP.below B4
     obtain ⟨d0, d1, d2, d3, d4⟩ := P4.cells
     have pl := P4.lt
     go_wp2_with fail
     refine (ticked_impl r.a r.b r.c now _).mono ?_
     rw [ho5.out]
     obtain ⟨ta, hta⟩ : ∃ v, Hid ((M1.tickP r.a r.b r.c now).a = v) := ⟨_, rfl⟩
     obtain ⟨tb, htb⟩ : ∃ v, Hid ((M1.tickP r.a r.b r.c now).b = v) := ⟨_, rfl⟩
     obtain ⟨tc, htc⟩ : ∃ v, Hid ((M1.tickP r.a r.b r.c now).c = v) := ⟨_, rfl⟩
     rw [hta.out, htb.out, htc.out]
     rintro e w5 ⟨rfl, hb5⟩
     have b5 := b4.trans (hb5.mono b4.size)
     clear d0 d1 d2 d3 d4 pl P4 S4
     have hA6 : Below w5.heap.size w5 (w5.alloc (.cells #[.int .i64 ta, .int .i64 tb, .int .i64 tc] 25)) := (Below.refl _ _).alloc (Nat.le_refl _) _
     have t6 := st_new w5 ta tb tc 25
     go_upto_region 8 with fail
     obtain ⟨W6, hW6⟩ : ∃ W, w5.alloc (.cells #[.int .i64 ta, .int .i64 tb, .int .i64 tc] 25) = W := ⟨_, rfl⟩
     rw [hW6] at hA6 t6 ⊢
     clear hW6
     have b6 := b5.trans (hA6.mono b5.size)
     have B6 := hA.trans (b6.mono hA.size)
     have S6 := S.below B6
     obtain ⟨kb, hkb⟩ : ∃ b, Hid (w5.heap.size = b) := ⟨_, rfl⟩
     rw [hkb.out] at t6 ⊢
     cases o5 with
     | false =>
      have HC : Hid (M1.isC r x now = ((4 : Nat) : Int)) := (M1.is_4 ho1.out HF.out ho4.out ho5.out).1
      have c3' := S6.c3
      have g1 := S6.g
      have zR : RowAt W6 (g + 1) 13 (uq M1.zeroU) := RowAt.below zA (b6)
      go_wp2_with fail
      refine (refuse_any ⟨p, 0, none⟩ s3 _).mono ?_
      rintro e wR ⟨rr, rfl, hR, hrr, hbR⟩
      have BR := B6.trans (hbR.mono B6.size)
      have z4 : RowAt wR (g + 1) 13 (uq M1.zeroU) := RowAt.below zR hbR
      have hzg : w.heap.size ≤ g + 1 := by rw [hg.out]; omega
      have hrg : g + 1 ≠ rr := by have := zR.lt; omega
      have zz : RowAt (((((((((((((wR.setCell ⟨g + 1, 0, none⟩ (.int .i64 0)).setCell ⟨g + 1, 1, none⟩ (.int .i64 0)).setCell ⟨g + 1, 2, none⟩ (.int .i64 0)).setCell ⟨g + 1, 3, none⟩ (.int .i64 0)).setCell ⟨g + 1, 4, none⟩ (.int .i64 0)).setCell ⟨g + 1, 5, none⟩ (.int .i64 0)).setCell ⟨g + 1, 6, none⟩ (.int .i64 0)).setCell ⟨g + 1, 7, none⟩ (.int .i64 0)).setCell ⟨g + 1, 8, none⟩ (.int .i64 0)).setCell ⟨g + 1, 9, none⟩ (.string ⟨#[]⟩)).setCell ⟨g + 1, 10, none⟩ (.int .i64 0)).setCell ⟨g + 1, 11, none⟩ (.int .i64 0)).setCell ⟨g + 1, 12, none⟩ (.int .i64 0)) (g + 1) 13 (uq M1.zeroU) := uq_put z4 M1.zeroU
      have BB : Below w.heap.size w (((((((((((((wR.setCell ⟨g + 1, 0, none⟩ (.int .i64 0)).setCell ⟨g + 1, 1, none⟩ (.int .i64 0)).setCell ⟨g + 1, 2, none⟩ (.int .i64 0)).setCell ⟨g + 1, 3, none⟩ (.int .i64 0)).setCell ⟨g + 1, 4, none⟩ (.int .i64 0)).setCell ⟨g + 1, 5, none⟩ (.int .i64 0)).setCell ⟨g + 1, 6, none⟩ (.int .i64 0)).setCell ⟨g + 1, 7, none⟩ (.int .i64 0)).setCell ⟨g + 1, 8, none⟩ (.int .i64 0)).setCell ⟨g + 1, 9, none⟩ (.string ⟨#[]⟩)).setCell ⟨g + 1, 10, none⟩ (.int .i64 0)).setCell ⟨g + 1, 11, none⟩ (.int .i64 0)).setCell ⟨g + 1, 12, none⟩ (.int .i64 0)) := bel_put BR hzg M1.zeroU
      have hR2 : Rfs (((((((((((((wR.setCell ⟨g + 1, 0, none⟩ (.int .i64 0)).setCell ⟨g + 1, 1, none⟩ (.int .i64 0)).setCell ⟨g + 1, 2, none⟩ (.int .i64 0)).setCell ⟨g + 1, 3, none⟩ (.int .i64 0)).setCell ⟨g + 1, 4, none⟩ (.int .i64 0)).setCell ⟨g + 1, 5, none⟩ (.int .i64 0)).setCell ⟨g + 1, 6, none⟩ (.int .i64 0)).setCell ⟨g + 1, 7, none⟩ (.int .i64 0)).setCell ⟨g + 1, 8, none⟩ (.int .i64 0)).setCell ⟨g + 1, 9, none⟩ (.string ⟨#[]⟩)).setCell ⟨g + 1, 10, none⟩ (.int .i64 0)).setCell ⟨g + 1, 11, none⟩ (.int .i64 0)).setCell ⟨g + 1, 12, none⟩ (.int .i64 0)) rr s3 (some ⟨p, 0, none⟩) := far13 hR hrg M1.zeroU
      obtain ⟨y0, y1, y2, y3, y4, y5, y6, y7, y8, y9, y10, y11, y12⟩ := uq_cells z4
      obtain ⟨f0, f1, f2, f3, f4, f5, f6, f7, f8, f9, f10, f11, f12⟩ := uq_free z4
      have zl4 := z4.lt
      go_wp2_with fail
      clear y0 y1 y2 y3 y4 y5 y6 y7 y8 y9 y10 y11 y12 f0 f1 f2 f3 f4 f5 f6 f7 f8 f9 f10 f11 f12
      obtain ⟨W5, hW5⟩ : ∃ W, (((((((((((((wR.setCell ⟨g + 1, 0, none⟩ (.int .i64 0)).setCell ⟨g + 1, 1, none⟩ (.int .i64 0)).setCell ⟨g + 1, 2, none⟩ (.int .i64 0)).setCell ⟨g + 1, 3, none⟩ (.int .i64 0)).setCell ⟨g + 1, 4, none⟩ (.int .i64 0)).setCell ⟨g + 1, 5, none⟩ (.int .i64 0)).setCell ⟨g + 1, 6, none⟩ (.int .i64 0)).setCell ⟨g + 1, 7, none⟩ (.int .i64 0)).setCell ⟨g + 1, 8, none⟩ (.int .i64 0)).setCell ⟨g + 1, 9, none⟩ (.string ⟨#[]⟩)).setCell ⟨g + 1, 10, none⟩ (.int .i64 0)).setCell ⟨g + 1, 11, none⟩ (.int .i64 0)).setCell ⟨g + 1, 12, none⟩ (.int .i64 0)) = W := ⟨_, rfl⟩
      rw [hW5] at zz BB hR2 ⊢
      clear hW5
      obtain ⟨v0, v1, v2, v3, v4, v5, v6, v7, v8, v9, v10, v11, v12⟩ := uq_cells zz
      unfold M1.zeroU at v0 v1 v2 v3 v4 v5 v6 v7 v8 v9 v10 v11 v12
      refine bodyPost_ret (v := .tuple #[.pointer none, .agg #[.int .i64 0, .int .i64 0, .int .i64 0, .int .i64 0, .int .i64 0, .int .i64 0, .int .i64 0, .int .i64 0, .int .i64 0, .string ByteArray.empty, .int .i64 0, .int .i64 0, .int .i64 0], .iface 126 (.pointer (some ⟨rr, 0, none⟩))]) (by simp [results, Tryz.results45, go_sem, v0, v1, v2, v3, v4, v5, v6, v7, v8, v9, v10, v11, v12]) rfl ?_
      exact ⟨.inl ⟨4, rr, HC, by omega, by omega, rfl, hR2⟩, BB⟩
     | true =>
      have P6 : RgAt W6 p r.id r.a r.b r.c av n cn := hP.below B6
      obtain ⟨c0, c1, c2, c3, c4, c5, c6⟩ := OpAt.cells (x := x) (RowAt.below oA b6)
      have ol := (RowAt.below oA b6).lt
      obtain ⟨k0, k1, k2⟩ := StAt.cells t6
      have kl := t6.lt
      have hid := M1.inB_true (M1.rOk_all ho1.out).1
      go_wp2_with fail
      refine (nextUpdate_any p r x ta tb tc av n cn _ P6 (hU.below B6) hset hid.1 hid.2).mono ?_
      rintro e w7 ⟨⟨u, rfl, hu⟩, hb7⟩
      clear c0 c1 c2 c3 c4 c5 c6 ol k0 k1 k2 kl
      have b7 := b6.trans (hb7.mono b6.size)
      have HN : Hid (M1.nuU r x now = u) := (by rw [hu.out, ← nuV_nu, show M1.tk r now = M1.tickP r.a r.b r.c now from rfl, hta.out, htb.out, htc.out, hU.hlen] : M1.nuU r x now = u)
      have hus : u.s.size ≤ maxLen := by rw [hu.out]; exact nuV_s hxs
      have hA8 : Below w7.heap.size w7 (w7.alloc (.cells #[.int .i64 u.dr, .int .i64 u.dn, .int .i64 u.sw, .int .i64 u.sc, .int .i64 u.sr, .int .i64 u.k, .int .i64 u.tr, .int .i64 u.id, .int .i64 u.pa, .string u.s, .int .i64 u.st, .int .i64 u.en, .int .i64 u.lv] 38)) := (Below.refl _ _).alloc (Nat.le_refl _) _
      have u8 := uq_new w7 u 38
      go_upto_region 11 with fail
      obtain ⟨W8, hW8⟩ : ∃ W, w7.alloc (.cells #[.int .i64 u.dr, .int .i64 u.dn, .int .i64 u.sw, .int .i64 u.sc, .int .i64 u.sr, .int .i64 u.k, .int .i64 u.tr, .int .i64 u.id, .int .i64 u.pa, .string u.s, .int .i64 u.st, .int .i64 u.en, .int .i64 u.lv] 38) = W := ⟨_, rfl⟩
      rw [hW8] at hA8 u8 ⊢
      clear hW8
      have b8 := b7.trans (hA8.mono b7.size)
      have B8 := hA.trans (b8.mono hA.size)
      obtain ⟨ub, hub⟩ : ∃ b, Hid (w7.heap.size = b) := ⟨_, rfl⟩
      rw [hub.out] at u8 ⊢
      have P8 : RgAt W8 p r.id r.a r.b r.c av n cn := hP.below B8
      obtain ⟨d0, d1, d2, d3, d4⟩ := P8.cells
      have pl := P8.lt
      obtain ⟨y0, y1, y2, y3, y4, y5, y6, y7, y8, y9, y10, y11, y12⟩ := uq_cells u8
      have ul := u8.lt
      obtain ⟨o6, ho6⟩ : ∃ o, Hid (M1.tOk r.us [u] = o) := ⟨_, rfl⟩
      obtain ⟨T, hT⟩ : ∃ T, Hid (M1.tL r.us [u] = T) := ⟨_, rfl⟩
      refine wp_region_held_drew (S := fun w' => Kp W8 w') (by kernel_rfl) ?_ (fun hHeld => ?_)
      ·exact kp_zero _
      refine tZ (i:=0) (v:=?_) rfl (.inl ⟨by rfl, ?_⟩) hHeld ?_
      rotate_left
      ·(intro w hSw; (try dsimp only at hSw); go_simp; try (with_reducible rfl))
      (try simp only [Act.put, zZ])
      refine tZ (i:=1) (v:=?_) rfl (.inl ⟨by rfl, ?_⟩) hHeld ?_
      rotate_left
      ·(intro w hSw; (try dsimp only at hSw); go_simp; try (with_reducible rfl))
      (try simp only [Act.put, zZ])
      refine tZ (i:=2) (v:=?_) rfl (.inl ⟨by rfl, ?_⟩) hHeld ?_
      rotate_left
      ·(intro w hSw; (try dsimp only at hSw); go_simp; try (with_reducible rfl))
      (try simp only [Act.put, zZ])
      refine tZ (i:=3) (v:=?_) rfl (.inl ⟨by rfl, ?_⟩) hHeld ?_
      rotate_left
      ·(intro w hSw; (try dsimp only at hSw); go_simp; try (with_reducible rfl))
      (try simp only [Act.put, zZ])
      refine tZ (i:=4) (v:=?_) rfl (.inl ⟨by rfl, ?_⟩) hHeld ?_
      rotate_left
      ·(intro w hSw; (try dsimp only at hSw); go_simp; try (with_reducible rfl))
      (try simp only [Act.put, zZ])
      refine wpAnyH_ready (rs := [5]) (by kernel_rfl) (by simp) ?_
      refine AllReadyH.cons (o := _) rfl (fun K hK => ?_) AllReadyH.nil
      go_simp
      skip
      refine hK.out _ _ ?_ (fun hHeld2 => ?_)
      ·exact kp_alloc hHeld _
      clear hK K hHeld
      have hHeld := hHeld2
      clear hHeld2
      (try simp only [Act.put, zZ])
      have r9 : RowAt (W8.alloc (.cells #[.int .i64 u.dr, .int .i64 u.dn, .int .i64 u.sw, .int .i64 u.sc, .int .i64 u.sr, .int .i64 u.k, .int .i64 u.tr, .int .i64 u.id, .int .i64 u.pa, .string u.s, .int .i64 u.st, .int .i64 u.en, .int .i64 u.lv] 38)).drew W8.heap.size 13 (uq u) := (uq_new W8 u 38).drew
      have hA9 : Below W8.heap.size W8 (W8.alloc (.cells #[.int .i64 u.dr, .int .i64 u.dn, .int .i64 u.sw, .int .i64 u.sc, .int .i64 u.sr, .int .i64 u.k, .int .i64 u.tr, .int .i64 u.id, .int .i64 u.pa, .string u.s, .int .i64 u.st, .int .i64 u.en, .int .i64 u.lv] 38)).drew := ((Below.refl _ _).alloc (Nat.le_refl _) _).drew
      obtain ⟨W9, hW9⟩ : ∃ W, (W8.alloc (.cells #[.int .i64 u.dr, .int .i64 u.dn, .int .i64 u.sw, .int .i64 u.sc, .int .i64 u.sr, .int .i64 u.k, .int .i64 u.tr, .int .i64 u.id, .int .i64 u.pa, .string u.s, .int .i64 u.st, .int .i64 u.en, .int .i64 u.lv] 38)).drew = W := ⟨_, rfl⟩
      rw [hW9] at hHeld r9 hA9 ⊢
      clear hW9
      have b9 := b8.trans (hA9.mono b8.size)
      have B9 := hA.trans (b9.mono hA.size)
      refine wpAnyH_ready (rs := [6]) (by kernel_rfl) (by simp) ?_
      refine AllReadyH.cons (o := _) rfl (fun K hK => ?_) AllReadyH.nil
      go_simp
      (refine (taken_impl _ _ _ _ _ _ r.us [u] _ (hU.below B9) (one_U r9 hus)).mono ?_; rw [ho6.out, hT.out]; rintro e w10 ⟨⟨v4, q4, rfl, mu4⟩, hb10⟩; go_wp2_with fail)
      refine hK.out _ _ ?_ (fun hHeld2 => ?_)
      ·exact kp_of (hA9.trans (hb10.mono hA9.size))
      clear hK K hHeld
      have hHeld := hHeld2
      clear hHeld2
      (try simp only [Act.put, zZ])
      refine tZ (i:=7) (v:=?_) rfl (.inl ⟨by rfl, ?_⟩) hHeld ?_
      rotate_left
      ·(intro w hSw; (try dsimp only at hSw); go_simp; try (with_reducible rfl))
      (try simp only [Act.put, zZ])
      refine tZ (i:=8) (v:=?_) rfl (.inl ⟨by rfl, ?_⟩) hHeld ?_
      rotate_left
      ·(intro w hSw; (try dsimp only at hSw); go_simp; try (with_reducible rfl))
      (try simp only [Act.put, zZ])
      refine tZ (i:=9) (v:=?_) rfl (.inl ⟨by rfl, ?_⟩) hHeld ?_
      rotate_left
      ·(intro w hSw; (try dsimp only at hSw); go_simp; try (with_reducible rfl))
      (try simp only [Act.put, zZ])
      refine tZ (i:=10) (v:=?_) rfl (.inl ⟨by rfl, ?_⟩) hHeld ?_
      rotate_left
      ·(intro w hSw; (try dsimp only at hSw); go_simp; try (with_reducible rfl))
      (try simp only [Act.put, zZ])
      refine tZ (i:=11) (v:=?_) rfl (.inl ⟨by rfl, ?_⟩) hHeld ?_
      rotate_left
      ·(intro w hSw; (try dsimp only at hSw); go_simp; try (with_reducible rfl))
      (try simp only [Act.put, zZ])
      refine wpAnyH_done (by kernel_rfl) ?_ _
      have b10 := b9.trans (hb10.mono b9.size)
      have B10 := hA.trans (b10.mono hA.size)
      have S10 := S.below B10
      have s9 := B9.size
      clear d0 d1 d2 d3 d4 pl y0 y1 y2 y3 y4 y5 y6 y7 y8 y9 y10 y11 y12 ul P8 P6 S6 hHeld
      cases o6 with
      | false =>
       have HC : Hid (M1.isC r x now = ((3 : Nat) : Int)) := (M1.is_3 ho1.out HF.out ho4.out ho5.out (by rw [HN.out]; exact ho6.out)).1
       have c4' := S10.c4
       have g1 := S10.g
       have zR : RowAt w10 (g + 1) 13 (uq M1.zeroU) := RowAt.below zA (b10)
       go_wp2_with fail
       refine (refuse_any ⟨p, 0, none⟩ s4 _).mono ?_
       rintro e wR ⟨rr, rfl, hR, hrr, hbR⟩
       have BR := B10.trans (hbR.mono B10.size)
       have z4 : RowAt wR (g + 1) 13 (uq M1.zeroU) := RowAt.below zR hbR
       have hzg : w.heap.size ≤ g + 1 := by rw [hg.out]; omega
       have hrg : g + 1 ≠ rr := by have := zR.lt; omega
       have zz : RowAt (((((((((((((wR.setCell ⟨g + 1, 0, none⟩ (.int .i64 0)).setCell ⟨g + 1, 1, none⟩ (.int .i64 0)).setCell ⟨g + 1, 2, none⟩ (.int .i64 0)).setCell ⟨g + 1, 3, none⟩ (.int .i64 0)).setCell ⟨g + 1, 4, none⟩ (.int .i64 0)).setCell ⟨g + 1, 5, none⟩ (.int .i64 0)).setCell ⟨g + 1, 6, none⟩ (.int .i64 0)).setCell ⟨g + 1, 7, none⟩ (.int .i64 0)).setCell ⟨g + 1, 8, none⟩ (.int .i64 0)).setCell ⟨g + 1, 9, none⟩ (.string ⟨#[]⟩)).setCell ⟨g + 1, 10, none⟩ (.int .i64 0)).setCell ⟨g + 1, 11, none⟩ (.int .i64 0)).setCell ⟨g + 1, 12, none⟩ (.int .i64 0)) (g + 1) 13 (uq M1.zeroU) := uq_put z4 M1.zeroU
       have BB : Below w.heap.size w (((((((((((((wR.setCell ⟨g + 1, 0, none⟩ (.int .i64 0)).setCell ⟨g + 1, 1, none⟩ (.int .i64 0)).setCell ⟨g + 1, 2, none⟩ (.int .i64 0)).setCell ⟨g + 1, 3, none⟩ (.int .i64 0)).setCell ⟨g + 1, 4, none⟩ (.int .i64 0)).setCell ⟨g + 1, 5, none⟩ (.int .i64 0)).setCell ⟨g + 1, 6, none⟩ (.int .i64 0)).setCell ⟨g + 1, 7, none⟩ (.int .i64 0)).setCell ⟨g + 1, 8, none⟩ (.int .i64 0)).setCell ⟨g + 1, 9, none⟩ (.string ⟨#[]⟩)).setCell ⟨g + 1, 10, none⟩ (.int .i64 0)).setCell ⟨g + 1, 11, none⟩ (.int .i64 0)).setCell ⟨g + 1, 12, none⟩ (.int .i64 0)) := bel_put BR hzg M1.zeroU
       have hR2 : Rfs (((((((((((((wR.setCell ⟨g + 1, 0, none⟩ (.int .i64 0)).setCell ⟨g + 1, 1, none⟩ (.int .i64 0)).setCell ⟨g + 1, 2, none⟩ (.int .i64 0)).setCell ⟨g + 1, 3, none⟩ (.int .i64 0)).setCell ⟨g + 1, 4, none⟩ (.int .i64 0)).setCell ⟨g + 1, 5, none⟩ (.int .i64 0)).setCell ⟨g + 1, 6, none⟩ (.int .i64 0)).setCell ⟨g + 1, 7, none⟩ (.int .i64 0)).setCell ⟨g + 1, 8, none⟩ (.int .i64 0)).setCell ⟨g + 1, 9, none⟩ (.string ⟨#[]⟩)).setCell ⟨g + 1, 10, none⟩ (.int .i64 0)).setCell ⟨g + 1, 11, none⟩ (.int .i64 0)).setCell ⟨g + 1, 12, none⟩ (.int .i64 0)) rr s4 (some ⟨p, 0, none⟩) := far13 hR hrg M1.zeroU
       obtain ⟨y0, y1, y2, y3, y4, y5, y6, y7, y8, y9, y10, y11, y12⟩ := uq_cells z4
       obtain ⟨f0, f1, f2, f3, f4, f5, f6, f7, f8, f9, f10, f11, f12⟩ := uq_free z4
       have zl4 := z4.lt
       go_wp2_with fail
       clear y0 y1 y2 y3 y4 y5 y6 y7 y8 y9 y10 y11 y12 f0 f1 f2 f3 f4 f5 f6 f7 f8 f9 f10 f11 f12
       obtain ⟨W5, hW5⟩ : ∃ W, (((((((((((((wR.setCell ⟨g + 1, 0, none⟩ (.int .i64 0)).setCell ⟨g + 1, 1, none⟩ (.int .i64 0)).setCell ⟨g + 1, 2, none⟩ (.int .i64 0)).setCell ⟨g + 1, 3, none⟩ (.int .i64 0)).setCell ⟨g + 1, 4, none⟩ (.int .i64 0)).setCell ⟨g + 1, 5, none⟩ (.int .i64 0)).setCell ⟨g + 1, 6, none⟩ (.int .i64 0)).setCell ⟨g + 1, 7, none⟩ (.int .i64 0)).setCell ⟨g + 1, 8, none⟩ (.int .i64 0)).setCell ⟨g + 1, 9, none⟩ (.string ⟨#[]⟩)).setCell ⟨g + 1, 10, none⟩ (.int .i64 0)).setCell ⟨g + 1, 11, none⟩ (.int .i64 0)).setCell ⟨g + 1, 12, none⟩ (.int .i64 0)) = W := ⟨_, rfl⟩
       rw [hW5] at zz BB hR2 ⊢
       clear hW5
       obtain ⟨v0, v1, v2, v3, v4, v5, v6, v7, v8, v9, v10, v11, v12⟩ := uq_cells zz
       unfold M1.zeroU at v0 v1 v2 v3 v4 v5 v6 v7 v8 v9 v10 v11 v12
       refine bodyPost_ret (v := .tuple #[.pointer none, .agg #[.int .i64 0, .int .i64 0, .int .i64 0, .int .i64 0, .int .i64 0, .int .i64 0, .int .i64 0, .int .i64 0, .int .i64 0, .string ByteArray.empty, .int .i64 0, .int .i64 0, .int .i64 0], .iface 126 (.pointer (some ⟨rr, 0, none⟩))]) (by simp [results, Tryz.results45, go_sem, v0, v1, v2, v3, v4, v5, v6, v7, v8, v9, v10, v11, v12]) rfl ?_
       exact ⟨.inl ⟨3, rr, HC, by omega, by omega, rfl, hR2⟩, BB⟩
      | true =>
       have HC : Hid (M1.isC r x now = 0) := (M1.is_0 ho1.out HF.out ho4.out ho5.out (by rw [HN.out]; exact ho6.out)).1
       have q8 := hb7.trans (hA8.mono hb7.size)
       have q10 := hA9.trans (hb10.mono hA9.size)
       have P10 : RgAt w10 p r.id r.a r.b r.c av n cn := hP.below B10
       have t10 : StAt w10 kb ta tb tc := RowAt.below t6 (q8.trans (q10.mono q8.size))
       have u10 : RowAt w10 ub 13 (uq u) := RowAt.below u8 q10
       have z10 : RowAt w10 (g + 1) 13 (uq M1.zeroU) := RowAt.below zA b10
       have m0 := zA.lt
       have m1 : g + 1 ≠ p := by have := hP.lt; rw [hg.out] at this; omega
       have m2 : g + 1 ≠ kb := by have := b5.size; rw [hkb.out] at this; omega
       have m3 : g + 1 ≠ ub := by have := b7.size; rw [hub.out] at this; omega
       have m4 : g + 1 < W9.heap.size := by have := b9.size; omega
       have m5 := hb10.size
       have hzg : w.heap.size ≤ g + 1 := by rw [hg.out]; omega
       go_wp2_with fail
       refine wp_region_held_drew (S := fun w' => RgAt w' p r.id r.a r.b r.c av n cn ∧ StAt w' kb ta tb tc ∧ RowAt w' ub 13 (uq u)) (by kernel_rfl) ?_ (fun hHeld => ?_)
       ·exact ⟨RowAt.drew P10, RowAt.drew t10, u10.drew⟩
       refine tZ (i:=0) (v:=?_) rfl (.inl ⟨by rfl, ?_⟩) hHeld ?_
       rotate_left
       ·(intro w hSw; (try dsimp only at hSw); go_simp; try (with_reducible rfl))
       (try simp only [Act.put, zZ])
       refine tZ (i:=1) (v:=?_) rfl (.inl ⟨by rfl, ?_⟩) hHeld ?_
       rotate_left
       ·(intro w hSw; (try dsimp only at hSw); go_simp; try (with_reducible rfl))
       (try simp only [Act.put, zZ])
       refine tZ (i:=2) (v:=?_) rfl (.inl ⟨by rfl, ?_⟩) hHeld ?_
       rotate_left
       ·(intro w hSw; (try dsimp only at hSw); go_simp; try (with_reducible rfl))
       (try simp only [Act.put, zZ])
       refine tZ (i:=3) (v:=.int .i64 r.id) rfl (.inl ⟨by rfl, ?_⟩) hHeld ?_
       ·(intro w hSw; (try dsimp only at hSw); go_simp; (have h4 := (RgAt.cells hSw.1).1; simp [go_sem, h4]))
       (try simp only [Act.put, zZ])
       refine tZ (i:=4) (v:=.agg #[.int .i64 ta, .int .i64 tb, .int .i64 tc]) rfl (.inl ⟨by rfl, ?_⟩) hHeld ?_
       ·(intro w hSw; (try dsimp only at hSw); go_simp; (obtain ⟨h1, h2, h3⟩ := StAt.cells hSw.2.1; simp [go_sem, h1, h2, h3]))
       (try simp only [Act.put, zZ])
       refine tZ (i:=5) (v:=?_) rfl (.inl ⟨by rfl, ?_⟩) hHeld ?_
       rotate_left
       ·(intro w hSw; (try dsimp only at hSw); go_simp; try (with_reducible rfl))
       (try simp only [Act.put, zZ])
       refine tZ (i:=6) (v:=?_) rfl (.inl ⟨by rfl, ?_⟩) hHeld ?_
       rotate_left
       ·(intro w hSw; (try dsimp only at hSw); go_simp; try (with_reducible rfl))
       (try simp only [Act.put, zZ])
       refine tZ (i:=8) (v:=.agg #[.int .i64 u.dr, .int .i64 u.dn, .int .i64 u.sw, .int .i64 u.sc, .int .i64 u.sr, .int .i64 u.k, .int .i64 u.tr, .int .i64 u.id, .int .i64 u.pa, .string u.s, .int .i64 u.st, .int .i64 u.en, .int .i64 u.lv]) rfl (.inl ⟨by rfl, ?_⟩) hHeld ?_
       ·(intro w hSw; (try dsimp only at hSw); go_simp; (obtain ⟨y0, y1, y2, y3, y4, y5, y6, y7, y8, y9, y10, y11, y12⟩ := uq_cells hSw.2.2; simp [go_sem, y0, y1, y2, y3, y4, y5, y6, y7, y8, y9, y10, y11, y12]))
       (try simp only [Act.put, zZ])
       refine wpAnyH_ready (rs := [7]) (by kernel_rfl) (by simp) ?_
       refine AllReadyH.cons (o := _) rfl (fun K hK => ?_) AllReadyH.nil
       go_simp
       skip
       refine hK.out _ _ ?_ (fun hHeld2 => ?_)
       ·exact ⟨hHeld.1.alloc _, hHeld.2.1.alloc _, hHeld.2.2.alloc _⟩
       clear hK K hHeld
       have hHeld := hHeld2
       clear hHeld2
       (try simp only [Act.put, zZ])
       have L11 : RgAt (w10.alloc (.cells #[.int .i64 r.id, .int .i64 ta, .int .i64 tb, .int .i64 tc, .slice v4 T.length q4] 28)).drew w10.heap.size r.id ta tb tc v4 T.length q4 := (rg_new w10 r.id ta tb tc v4 T.length q4 28).drew
       have hA11 : Below w10.heap.size w10 (w10.alloc (.cells #[.int .i64 r.id, .int .i64 ta, .int .i64 tb, .int .i64 tc, .slice v4 T.length q4] 28)).drew := ((Below.refl _ _).alloc (Nat.le_refl _) _).drew
       obtain ⟨W11, hW11⟩ : ∃ W, (w10.alloc (.cells #[.int .i64 r.id, .int .i64 ta, .int .i64 tb, .int .i64 tc, .slice v4 T.length q4] 28)).drew = W := ⟨_, rfl⟩
       rw [hW11] at L11 hA11 hHeld ⊢
       clear hW11
       have z11 : RowAt W11 (g + 1) 13 (uq M1.zeroU) := RowAt.below z10 hA11
       have mu11 := mu4.below hA11
       have B11 := B10.trans (hA11.mono B10.size)
       refine tZ (i:=9) (v:=?_) rfl (.inl ⟨by rfl, ?_⟩) hHeld ?_
       rotate_left
       ·(intro w hSw; (try dsimp only at hSw); go_simp; try (with_reducible rfl))
       (try simp only [Act.put, zZ])
       obtain ⟨y0, y1, y2, y3, y4, y5, y6, y7, y8, y9, y10, y11, y12⟩ := uq_cells z11
       obtain ⟨f0, f1, f2, f3, f4, f5, f6, f7, f8, f9, f10, f11, f12⟩ := uq_free z11
       have zl11 := z11.lt
       refine wpAnyH_ready (rs := [10]) (by kernel_rfl) (by simp) ?_
       refine AllReadyH.cons (o := _) rfl (fun K hK => ?_) AllReadyH.nil
       go_simp
       skip
       refine hK.out _ _ ?_ (fun hHeld2 => ?_)
       ·exact ⟨far13 hHeld.1 m1 u, far13 hHeld.2.1 m2 u, far13 hHeld.2.2 m3 u⟩
       clear hK K hHeld
       have hHeld := hHeld2
       clear hHeld2
       (try simp only [Act.put, zZ])
       refine tZ (i:=11) (v:=?_) rfl (.inl ⟨by rfl, ?_⟩) hHeld ?_
       rotate_left
       ·(intro w hSw; (try dsimp only at hSw); go_simp; try (with_reducible rfl))
       (try simp only [Act.put, zZ])
       refine wpAnyH_done (by kernel_rfl) ?_ _
       have zz : RowAt (((((((((((((W11.setCell ⟨g + 1, 0, none⟩ (.int .i64 u.dr)).setCell ⟨g + 1, 1, none⟩ (.int .i64 u.dn)).setCell ⟨g + 1, 2, none⟩ (.int .i64 u.sw)).setCell ⟨g + 1, 3, none⟩ (.int .i64 u.sc)).setCell ⟨g + 1, 4, none⟩ (.int .i64 u.sr)).setCell ⟨g + 1, 5, none⟩ (.int .i64 u.k)).setCell ⟨g + 1, 6, none⟩ (.int .i64 u.tr)).setCell ⟨g + 1, 7, none⟩ (.int .i64 u.id)).setCell ⟨g + 1, 8, none⟩ (.int .i64 u.pa)).setCell ⟨g + 1, 9, none⟩ (.string u.s)).setCell ⟨g + 1, 10, none⟩ (.int .i64 u.st)).setCell ⟨g + 1, 11, none⟩ (.int .i64 u.en)).setCell ⟨g + 1, 12, none⟩ (.int .i64 u.lv)) (g + 1) 13 (uq u) := uq_put z11 u
       have BB : Below w.heap.size w (((((((((((((W11.setCell ⟨g + 1, 0, none⟩ (.int .i64 u.dr)).setCell ⟨g + 1, 1, none⟩ (.int .i64 u.dn)).setCell ⟨g + 1, 2, none⟩ (.int .i64 u.sw)).setCell ⟨g + 1, 3, none⟩ (.int .i64 u.sc)).setCell ⟨g + 1, 4, none⟩ (.int .i64 u.sr)).setCell ⟨g + 1, 5, none⟩ (.int .i64 u.k)).setCell ⟨g + 1, 6, none⟩ (.int .i64 u.tr)).setCell ⟨g + 1, 7, none⟩ (.int .i64 u.id)).setCell ⟨g + 1, 8, none⟩ (.int .i64 u.pa)).setCell ⟨g + 1, 9, none⟩ (.string u.s)).setCell ⟨g + 1, 10, none⟩ (.int .i64 u.st)).setCell ⟨g + 1, 11, none⟩ (.int .i64 u.en)).setCell ⟨g + 1, 12, none⟩ (.int .i64 u.lv)) := bel_put B11 hzg u
       have m6 : g + 1 ≠ w10.heap.size := by omega
       have L12 : RgAt (((((((((((((W11.setCell ⟨g + 1, 0, none⟩ (.int .i64 u.dr)).setCell ⟨g + 1, 1, none⟩ (.int .i64 u.dn)).setCell ⟨g + 1, 2, none⟩ (.int .i64 u.sw)).setCell ⟨g + 1, 3, none⟩ (.int .i64 u.sc)).setCell ⟨g + 1, 4, none⟩ (.int .i64 u.sr)).setCell ⟨g + 1, 5, none⟩ (.int .i64 u.k)).setCell ⟨g + 1, 6, none⟩ (.int .i64 u.tr)).setCell ⟨g + 1, 7, none⟩ (.int .i64 u.id)).setCell ⟨g + 1, 8, none⟩ (.int .i64 u.pa)).setCell ⟨g + 1, 9, none⟩ (.string u.s)).setCell ⟨g + 1, 10, none⟩ (.int .i64 u.st)).setCell ⟨g + 1, 11, none⟩ (.int .i64 u.en)).setCell ⟨g + 1, 12, none⟩ (.int .i64 u.lv)) w10.heap.size r.id ta tb tc v4 T.length q4 := far13 L11 m6 u
       have mu12 : MU (((((((((((((W11.setCell ⟨g + 1, 0, none⟩ (.int .i64 u.dr)).setCell ⟨g + 1, 1, none⟩ (.int .i64 u.dn)).setCell ⟨g + 1, 2, none⟩ (.int .i64 u.sw)).setCell ⟨g + 1, 3, none⟩ (.int .i64 u.sc)).setCell ⟨g + 1, 4, none⟩ (.int .i64 u.sr)).setCell ⟨g + 1, 5, none⟩ (.int .i64 u.k)).setCell ⟨g + 1, 6, none⟩ (.int .i64 u.tr)).setCell ⟨g + 1, 7, none⟩ (.int .i64 u.id)).setCell ⟨g + 1, 8, none⟩ (.int .i64 u.pa)).setCell ⟨g + 1, 9, none⟩ (.string u.s)).setCell ⟨g + 1, 10, none⟩ (.int .i64 u.st)).setCell ⟨g + 1, 11, none⟩ (.int .i64 u.en)).setCell ⟨g + 1, 12, none⟩ (.int .i64 u.lv)) v4 T.length q4 W9.heap.size w10.heap.size (ucell T) := mu_put13 mu11 m4 u
       clear y0 y1 y2 y3 y4 y5 y6 y7 y8 y9 y10 y11 y12 f0 f1 f2 f3 f4 f5 f6 f7 f8 f9 f10 f11 f12 hHeld
       go_wp2_with fail
       obtain ⟨W12, hW12⟩ : ∃ W, (((((((((((((W11.setCell ⟨g + 1, 0, none⟩ (.int .i64 u.dr)).setCell ⟨g + 1, 1, none⟩ (.int .i64 u.dn)).setCell ⟨g + 1, 2, none⟩ (.int .i64 u.sw)).setCell ⟨g + 1, 3, none⟩ (.int .i64 u.sc)).setCell ⟨g + 1, 4, none⟩ (.int .i64 u.sr)).setCell ⟨g + 1, 5, none⟩ (.int .i64 u.k)).setCell ⟨g + 1, 6, none⟩ (.int .i64 u.tr)).setCell ⟨g + 1, 7, none⟩ (.int .i64 u.id)).setCell ⟨g + 1, 8, none⟩ (.int .i64 u.pa)).setCell ⟨g + 1, 9, none⟩ (.string u.s)).setCell ⟨g + 1, 10, none⟩ (.int .i64 u.st)).setCell ⟨g + 1, 11, none⟩ (.int .i64 u.en)).setCell ⟨g + 1, 12, none⟩ (.int .i64 u.lv)) = W := ⟨_, rfl⟩
       rw [hW12] at zz BB L12 mu12 ⊢
       clear hW12
       have hl12 := L12.lt
       obtain ⟨v0, v1, v2, v3, v4', v5, v6, v7, v8, v9, v10, v11, v12⟩ := uq_cells zz
       refine bodyPost_ret (v := .tuple #[.pointer (some ⟨w10.heap.size, 0, none⟩), .agg #[.int .i64 u.dr, .int .i64 u.dn, .int .i64 u.sw, .int .i64 u.sc, .int .i64 u.sr, .int .i64 u.k, .int .i64 u.tr, .int .i64 u.id, .int .i64 u.pa, .string u.s, .int .i64 u.st, .int .i64 u.en, .int .i64 u.lv], .nilIface]) (by simp [results, Tryz.results45, go_sem, v0, v1, v2, v3, v4', v5, v6, v7, v8, v9, v10, v11, v12]) rfl ?_
       refine ⟨.inr ⟨HC, w10.heap.size, v4, q4, ?_, ?_, ?_⟩, BB⟩
       ·rw [HN.out]
       ·rw [HN.out, hT.out, show M1.tk r now = M1.tickP r.a r.b r.c now from rfl, hta.out, htb.out, htc.out]; exact L12
       ·rw [HN.out, hT.out]; exact ⟨mu12.1, mu12.2.1, mu12.2.2.imp (fun h => h) fun ⟨g2, e, h1, h2, r⟩ => ⟨g2, e, by omega, by omega, r⟩⟩

end Go.Proofs.YtccendmoeelniaaGreatDoor
