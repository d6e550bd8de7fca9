/-
  Texts of one proof, joined: Is7.
-/
import Derived.Test.YtccendmoeelniaaGreatDoorZFIssued42
namespace M1
theorem is_set (r : Rg) (x : OpV) (now : Int) : setOk (isR r x now).us = true := by
 rcases is_cases r x now with ⟨_, _, q, _⟩ | ⟨q, _, q2, _⟩ | ⟨q0, _, q, _, q2⟩
 ·rw [q]; rfl
 ·rw [q2]; exact rOk_set q
 ·rw [q]; show setOk (insD r.us (nuU r x now)) = true; rw [← (nu_set q0).1]; exact q2

end M1
namespace Go.Proofs.YtccendmoeelniaaGreatDoor
open Go.ChangeShapes Go.WideShapes Go.ChangeAt Go.RowKit
set_option linter.unusedSimpArgs false
set_option linter.unusedVariables false
set_option maxHeartbeats 8000000 in
set_option maxRecDepth 100000 in
theorem issued_spec (r : M1.Rg) (x : M1.OpV) (now : Int) (av : Option Addr) (n cn : Nat) (w : World) (hU : IsUpds w av n cn r.us) (hxs : x.s.size ≤ maxLen) :
  Calls Tryz.prog 11 #[.agg #[.int .i64 r.id, .int .i64 r.a, .int .i64 r.b, .int .i64 r.c, .slice av n cn], .agg #[.int .i64 x.k, .int .i64 x.t, .int .i64 x.id, .int .i64 x.pa, .string x.s, .int .i64 x.st, .int .i64 x.en], .int .i64 now] w fun e w' => IsS w w' e r x now ∧ Below w.heap.size w w' := by
 have hln : Hid (r.us.length = n) := hU.hlen
 have hA : Below w.heap.size w ((((w.alloc (.cells #[.int .i64 r.id, .int .i64 r.a, .int .i64 r.b, .int .i64 r.c, .slice av n cn] 28)).alloc (.cells #[.int .i64 x.k, .int .i64 x.t, .int .i64 x.id, .int .i64 x.pa, .string x.s, .int .i64 x.st, .int .i64 x.en] 32)).alloc (.cells #[.int .i64 0, .int .i64 0, .int .i64 0, .int .i64 0, .slice none 0 0] 28)).alloc (.cells #[.int .i64 0, .int .i64 0, .int .i64 0, .int .i64 0, .int .i64 0, .int .i64 0, .int .i64 0, .int .i64 0, .int .i64 0, .string ⟨#[]⟩, .int .i64 0, .int .i64 0, .int .i64 0] 38)) := ((((Below.refl _ _).alloc (Nat.le_refl _) _).alloc (by simp) _).alloc (by simp <;> omega) _).alloc (by simp <;> omega) _
 have P0 : RgAt ((((w.alloc (.cells #[.int .i64 r.id, .int .i64 r.a, .int .i64 r.b, .int .i64 r.c, .slice av n cn] 28)).alloc (.cells #[.int .i64 x.k, .int .i64 x.t, .int .i64 x.id, .int .i64 x.pa, .string x.s, .int .i64 x.st, .int .i64 x.en] 32)).alloc (.cells #[.int .i64 0, .int .i64 0, .int .i64 0, .int .i64 0, .slice none 0 0] 28)).alloc (.cells #[.int .i64 0, .int .i64 0, .int .i64 0, .int .i64 0, .int .i64 0, .int .i64 0, .int .i64 0, .int .i64 0, .int .i64 0, .string ⟨#[]⟩, .int .i64 0, .int .i64 0, .int .i64 0] 38)) w.heap.size r.id r.a r.b r.c av n cn := (((rg_new w r.id r.a r.b r.c av n cn 28).alloc _).alloc _).alloc _
 have o0 : OpAt ((((w.alloc (.cells #[.int .i64 r.id, .int .i64 r.a, .int .i64 r.b, .int .i64 r.c, .slice av n cn] 28)).alloc (.cells #[.int .i64 x.k, .int .i64 x.t, .int .i64 x.id, .int .i64 x.pa, .string x.s, .int .i64 x.st, .int .i64 x.en] 32)).alloc (.cells #[.int .i64 0, .int .i64 0, .int .i64 0, .int .i64 0, .slice none 0 0] 28)).alloc (.cells #[.int .i64 0, .int .i64 0, .int .i64 0, .int .i64 0, .int .i64 0, .int .i64 0, .int .i64 0, .int .i64 0, .int .i64 0, .string ⟨#[]⟩, .int .i64 0, .int .i64 0, .int .i64 0] 38)) (w.alloc (.cells #[.int .i64 r.id, .int .i64 r.a, .int .i64 r.b, .int .i64 r.c, .slice av n cn] 28)).heap.size x := ((op_new (w.alloc (.cells #[.int .i64 r.id, .int .i64 r.a, .int .i64 r.b, .int .i64 r.c, .slice av n cn] 28)) x 32).alloc _).alloc _
 have z0 : RgAt ((((w.alloc (.cells #[.int .i64 r.id, .int .i64 r.a, .int .i64 r.b, .int .i64 r.c, .slice av n cn] 28)).alloc (.cells #[.int .i64 x.k, .int .i64 x.t, .int .i64 x.id, .int .i64 x.pa, .string x.s, .int .i64 x.st, .int .i64 x.en] 32)).alloc (.cells #[.int .i64 0, .int .i64 0, .int .i64 0, .int .i64 0, .slice none 0 0] 28)).alloc (.cells #[.int .i64 0, .int .i64 0, .int .i64 0, .int .i64 0, .int .i64 0, .int .i64 0, .int .i64 0, .int .i64 0, .int .i64 0, .string ⟨#[]⟩, .int .i64 0, .int .i64 0, .int .i64 0] 38)) ((w.alloc (.cells #[.int .i64 r.id, .int .i64 r.a, .int .i64 r.b, .int .i64 r.c, .slice av n cn] 28)).alloc (.cells #[.int .i64 x.k, .int .i64 x.t, .int .i64 x.id, .int .i64 x.pa, .string x.s, .int .i64 x.st, .int .i64 x.en] 32)).heap.size 0 0 0 0 none 0 0 := (rg_new ((w.alloc (.cells #[.int .i64 r.id, .int .i64 r.a, .int .i64 r.b, .int .i64 r.c, .slice av n cn] 28)).alloc (.cells #[.int .i64 x.k, .int .i64 x.t, .int .i64 x.id, .int .i64 x.pa, .string x.s, .int .i64 x.st, .int .i64 x.en] 32)) 0 0 0 0 none 0 0 28).alloc _
 have y0 : RowAt ((((w.alloc (.cells #[.int .i64 r.id, .int .i64 r.a, .int .i64 r.b, .int .i64 r.c, .slice av n cn] 28)).alloc (.cells #[.int .i64 x.k, .int .i64 x.t, .int .i64 x.id, .int .i64 x.pa, .string x.s, .int .i64 x.st, .int .i64 x.en] 32)).alloc (.cells #[.int .i64 0, .int .i64 0, .int .i64 0, .int .i64 0, .slice none 0 0] 28)).alloc (.cells #[.int .i64 0, .int .i64 0, .int .i64 0, .int .i64 0, .int .i64 0, .int .i64 0, .int .i64 0, .int .i64 0, .int .i64 0, .string ⟨#[]⟩, .int .i64 0, .int .i64 0, .int .i64 0] 38)) (((w.alloc (.cells #[.int .i64 r.id, .int .i64 r.a, .int .i64 r.b, .int .i64 r.c, .slice av n cn] 28)).alloc (.cells #[.int .i64 x.k, .int .i64 x.t, .int .i64 x.id, .int .i64 x.pa, .string x.s, .int .i64 x.st, .int .i64 x.en] 32)).alloc (.cells #[.int .i64 0, .int .i64 0, .int .i64 0, .int .i64 0, .slice none 0 0] 28)).heap.size 13 (uq M1.zeroU) := uq_new (((w.alloc (.cells #[.int .i64 r.id, .int .i64 r.a, .int .i64 r.b, .int .i64 r.c, .slice av n cn] 28)).alloc (.cells #[.int .i64 x.k, .int .i64 x.t, .int .i64 x.id, .int .i64 x.pa, .string x.s, .int .i64 x.st, .int .i64 x.en] 32)).alloc (.cells #[.int .i64 0, .int .i64 0, .int .i64 0, .int .i64 0, .slice none 0 0] 28)) M1.zeroU 38
 rw [show (w.alloc (.cells #[.int .i64 r.id, .int .i64 r.a, .int .i64 r.b, .int .i64 r.c, .slice av n cn] 28)).heap.size = w.heap.size + 1 by simp] at o0
 rw [show ((w.alloc (.cells #[.int .i64 r.id, .int .i64 r.a, .int .i64 r.b, .int .i64 r.c, .slice av n cn] 28)).alloc (.cells #[.int .i64 x.k, .int .i64 x.t, .int .i64 x.id, .int .i64 x.pa, .string x.s, .int .i64 x.st, .int .i64 x.en] 32)).heap.size = w.heap.size + 1 + 1 by simp] at z0
 rw [show (((w.alloc (.cells #[.int .i64 r.id, .int .i64 r.a, .int .i64 r.b, .int .i64 r.c, .slice av n cn] 28)).alloc (.cells #[.int .i64 x.k, .int .i64 x.t, .int .i64 x.id, .int .i64 x.pa, .string x.s, .int .i64 x.st, .int .i64 x.en] 32)).alloc (.cells #[.int .i64 0, .int .i64 0, .int .i64 0, .int .i64 0, .slice none 0 0] 28)).heap.size = w.heap.size + 1 + 1 + 1 by simp] at y0
 go_enter Tryz.func11, Tryz.ntmps11
 go_upto_region 1 with fail
 obtain ⟨W0, hW0⟩ : ∃ W, ((((w.alloc (.cells #[.int .i64 r.id, .int .i64 r.a, .int .i64 r.b, .int .i64 r.c, .slice av n cn] 28)).alloc (.cells #[.int .i64 x.k, .int .i64 x.t, .int .i64 x.id, .int .i64 x.pa, .string x.s, .int .i64 x.st, .int .i64 x.en] 32)).alloc (.cells #[.int .i64 0, .int .i64 0, .int .i64 0, .int .i64 0, .slice none 0 0] 28)).alloc (.cells #[.int .i64 0, .int .i64 0, .int .i64 0, .int .i64 0, .int .i64 0, .int .i64 0, .int .i64 0, .int .i64 0, .int .i64 0, .string ⟨#[]⟩, .int .i64 0, .int .i64 0, .int .i64 0] 38)) = W := ⟨_, rfl⟩
 rw [hW0] at hA P0 o0 z0 y0 ⊢
 clear hW0
 obtain ⟨y, hy⟩ : ∃ y, Hid (w.heap.size + 1 + 1 + 1 = y) := ⟨_, rfl⟩
 obtain ⟨z, hz⟩ : ∃ z, Hid (w.heap.size + 1 + 1 = z) := ⟨_, rfl⟩
 obtain ⟨o, ho⟩ : ∃ o, Hid (w.heap.size + 1 = o) := ⟨_, rfl⟩
 obtain ⟨p, hp⟩ : ∃ p, Hid (w.heap.size = p) := ⟨_, rfl⟩
 have hyw : w.heap.size ≤ y := by have := hy.out; omega
 have hzw : w.heap.size ≤ z := by have := hz.out; omega
 have how : w.heap.size ≤ o := by have := ho.out; omega
 have hpw : w.heap.size ≤ p := by have := hp.out; omega
 have hyz : ¬ y = z := by have := hy.out; have := hz.out; omega
 have hzy : ¬ z = y := by have := hy.out; have := hz.out; omega
 have hpz : ¬ p = z := by have := hp.out; have := hz.out; omega
 have hpy : ¬ p = y := by have := hp.out; have := hy.out; omega
 have hoz : ¬ o = z := by have := ho.out; have := hz.out; omega
 have hoy : ¬ o = y := by have := ho.out; have := hy.out; omega
 rw [hy.out] at y0 ⊢
 rw [hz.out] at z0 ⊢
 rw [ho.out] at o0 ⊢
 rw [hp.out] at P0 ⊢
 obtain ⟨o1, ho1⟩ : ∃ o, Hid (M1.rOk r = o) := ⟨_, rfl⟩
 obtain ⟨d0, d1, d2, d3, d4⟩ := P0.cells
 have pl := P0.lt
 go_wp2_with fail
 refine (regionOk_spec r.id r.a r.b r.c _ _ _ _ _ (hU.below hA)).mono ?_
 rw [show M1.regOk r.id r.a r.b r.c r.us = o1 from ho1.out]
 rintro e w1 ⟨rfl, hb1⟩
 have B1 := hA.trans (hb1.mono hA.size)
 have P1 : RgAt w1 p r.id r.a r.b r.c av n cn := P0.below hb1
 have O1 : OpAt w1 o x := RowAt.below o0 hb1
 have z1 : RgAt w1 z 0 0 0 0 none 0 0 := z0.below hb1
 have y1 : RowAt w1 y 13 (uq M1.zeroU) := RowAt.below y0 hb1
 clear d0 d1 d2 d3 d4 pl P0 o0 z0 y0
 cases o1 with
 | false =>
  have HC : Hid (M1.isC r x now = 1 ∧ M1.isR r x now = M1.zeroR ∧ M1.isU r x now = M1.zeroU) := M1.is_1 ho1.out
  obtain ⟨a0, a1, a2, a3, a4⟩ := z1.cells
  obtain ⟨b0, b1, b2, b3, b4⟩ := z1.frees
  have zl9 := z1.lt
  obtain ⟨ca0, ca1, ca2, ca3, ca4, ca5, ca6, ca7, ca8, ca9, ca10, ca11, ca12⟩ := uq_cells y1
  obtain ⟨fa0, fa1, fa2, fa3, fa4, fa5, fa6, fa7, fa8, fa9, fa10, fa11, fa12⟩ := uq_free y1
  have yl9 := y1.lt
  have zf : RgAt (((((w1.setCell ⟨z, 0, none⟩ (.int .i64 0)).setCell ⟨z, 1, none⟩ (.int .i64 0)).setCell ⟨z, 2, none⟩ (.int .i64 0)).setCell ⟨z, 3, none⟩ (.int .i64 0)).setCell ⟨z, 4, none⟩ (.slice none 0 0)) z 0 0 0 0 none 0 0 := z1.put 0 0 0 0 none 0 0
  have yf : RowAt (((((w1.setCell ⟨z, 0, none⟩ (.int .i64 0)).setCell ⟨z, 1, none⟩ (.int .i64 0)).setCell ⟨z, 2, none⟩ (.int .i64 0)).setCell ⟨z, 3, none⟩ (.int .i64 0)).setCell ⟨z, 4, none⟩ (.slice none 0 0)) y 13 (uq M1.zeroU) := far5 y1 hzy _ _ _ _ _
  have zz : RowAt ((((((((((((((((((w1.setCell ⟨z, 0, none⟩ (.int .i64 0)).setCell ⟨z, 1, none⟩ (.int .i64 0)).setCell ⟨z, 2, none⟩ (.int .i64 0)).setCell ⟨z, 3, none⟩ (.int .i64 0)).setCell ⟨z, 4, none⟩ (.slice none 0 0)).setCell ⟨y, 0, none⟩ (.int .i64 0)).setCell ⟨y, 1, none⟩ (.int .i64 0)).setCell ⟨y, 2, none⟩ (.int .i64 0)).setCell ⟨y, 3, none⟩ (.int .i64 0)).setCell ⟨y, 4, none⟩ (.int .i64 0)).setCell ⟨y, 5, none⟩ (.int .i64 0)).setCell ⟨y, 6, none⟩ (.int .i64 0)).setCell ⟨y, 7, none⟩ (.int .i64 0)).setCell ⟨y, 8, none⟩ (.int .i64 0)).setCell ⟨y, 9, none⟩ (.string ⟨#[]⟩)).setCell ⟨y, 10, none⟩ (.int .i64 0)).setCell ⟨y, 11, none⟩ (.int .i64 0)).setCell ⟨y, 12, none⟩ (.int .i64 0)) y 13 (uq M1.zeroU) := uq_put yf M1.zeroU
  have zr : RgAt ((((((((((((((((((w1.setCell ⟨z, 0, none⟩ (.int .i64 0)).setCell ⟨z, 1, none⟩ (.int .i64 0)).setCell ⟨z, 2, none⟩ (.int .i64 0)).setCell ⟨z, 3, none⟩ (.int .i64 0)).setCell ⟨z, 4, none⟩ (.slice none 0 0)).setCell ⟨y, 0, none⟩ (.int .i64 0)).setCell ⟨y, 1, none⟩ (.int .i64 0)).setCell ⟨y, 2, none⟩ (.int .i64 0)).setCell ⟨y, 3, none⟩ (.int .i64 0)).setCell ⟨y, 4, none⟩ (.int .i64 0)).setCell ⟨y, 5, none⟩ (.int .i64 0)).setCell ⟨y, 6, none⟩ (.int .i64 0)).setCell ⟨y, 7, none⟩ (.int .i64 0)).setCell ⟨y, 8, none⟩ (.int .i64 0)).setCell ⟨y, 9, none⟩ (.string ⟨#[]⟩)).setCell ⟨y, 10, none⟩ (.int .i64 0)).setCell ⟨y, 11, none⟩ (.int .i64 0)).setCell ⟨y, 12, none⟩ (.int .i64 0)) z 0 0 0 0 none 0 0 := far13 zf hyz M1.zeroU
  have BB : Below w.heap.size w ((((((((((((((((((w1.setCell ⟨z, 0, none⟩ (.int .i64 0)).setCell ⟨z, 1, none⟩ (.int .i64 0)).setCell ⟨z, 2, none⟩ (.int .i64 0)).setCell ⟨z, 3, none⟩ (.int .i64 0)).setCell ⟨z, 4, none⟩ (.slice none 0 0)).setCell ⟨y, 0, none⟩ (.int .i64 0)).setCell ⟨y, 1, none⟩ (.int .i64 0)).setCell ⟨y, 2, none⟩ (.int .i64 0)).setCell ⟨y, 3, none⟩ (.int .i64 0)).setCell ⟨y, 4, none⟩ (.int .i64 0)).setCell ⟨y, 5, none⟩ (.int .i64 0)).setCell ⟨y, 6, none⟩ (.int .i64 0)).setCell ⟨y, 7, none⟩ (.int .i64 0)).setCell ⟨y, 8, none⟩ (.int .i64 0)).setCell ⟨y, 9, none⟩ (.string ⟨#[]⟩)).setCell ⟨y, 10, none⟩ (.int .i64 0)).setCell ⟨y, 11, none⟩ (.int .i64 0)).setCell ⟨y, 12, none⟩ (.int .i64 0)) := bel_put (bel_put5 B1 hzw _ _ _ _ _) hyw M1.zeroU
  go_wp2_with fail
  clear a0 a1 a2 a3 a4 b0 b1 b2 b3 b4 ca0 ca1 ca2 ca3 ca4 ca5 ca6 ca7 ca8 ca9 ca10 ca11 ca12 fa0 fa1 fa2 fa3 fa4 fa5 fa6 fa7 fa8 fa9 fa10 fa11 fa12 zf yf
  obtain ⟨Wz, hWz⟩ : ∃ W, ((((((((((((((((((w1.setCell ⟨z, 0, none⟩ (.int .i64 0)).setCell ⟨z, 1, none⟩ (.int .i64 0)).setCell ⟨z, 2, none⟩ (.int .i64 0)).setCell ⟨z, 3, none⟩ (.int .i64 0)).setCell ⟨z, 4, none⟩ (.slice none 0 0)).setCell ⟨y, 0, none⟩ (.int .i64 0)).setCell ⟨y, 1, none⟩ (.int .i64 0)).setCell ⟨y, 2, none⟩ (.int .i64 0)).setCell ⟨y, 3, none⟩ (.int .i64 0)).setCell ⟨y, 4, none⟩ (.int .i64 0)).setCell ⟨y, 5, none⟩ (.int .i64 0)).setCell ⟨y, 6, none⟩ (.int .i64 0)).setCell ⟨y, 7, none⟩ (.int .i64 0)).setCell ⟨y, 8, none⟩ (.int .i64 0)).setCell ⟨y, 9, none⟩ (.string ⟨#[]⟩)).setCell ⟨y, 10, none⟩ (.int .i64 0)).setCell ⟨y, 11, none⟩ (.int .i64 0)).setCell ⟨y, 12, none⟩ (.int .i64 0)) = W := ⟨_, rfl⟩
  rw [hWz] at zz zr BB ⊢
  clear hWz
  obtain ⟨r0, r1, r2, r3, r4⟩ := zr.cells
  obtain ⟨va0, va1, va2, va3, va4, va5, va6, va7, va8, va9, va10, va11, va12⟩ := uq_cells zz
  unfold M1.zeroU at va0 va1 va2 va3 va4 va5 va6 va7 va8 va9 va10 va11 va12
  refine bodyPost_ret (v := .tuple #[.agg #[.int .i64 0, .int .i64 0, .int .i64 0, .int .i64 0, .slice none 0 0], .agg #[.int .i64 0, .int .i64 0, .int .i64 0, .int .i64 0, .int .i64 0, .int .i64 0, .int .i64 0, .int .i64 0, .int .i64 0, .string ByteArray.empty, .int .i64 0, .int .i64 0, .int .i64 0], .int .i64 1]) (by simp [results, Tryz.results11, go_sem, r0, r1, r2, r3, r4, va0, va1, va2, va3, va4, va5, va6, va7, va8, va9, va10, va11, va12]) rfl ?_
  exact ⟨⟨_, by rw [HC.out.1, HC.out.2.2]; rfl, by rw [HC.out.2.1]; exact ⟨none, 0, rfl, Nat.le_refl _, Nat.zero_le _, .inl ⟨rfl, rfl⟩⟩⟩, BB⟩
 | true =>
  obtain ⟨d0, d1, d2, d3, d4⟩ := P1.cells
  have pl := P1.lt
  obtain ⟨e0, e1, e2, e3, e4, e5, e6⟩ := OpAt.cells (x := x) O1
  have ol := O1.lt
  have zl1 := z1.lt
  have yl1 := y1.lt
  have hs1 := B1.size
  go_wp2_with fail
  have js := l5Issued_any r x now _ _ _ _ (hU.below B1) hxs ho1
  unfold IsS at js
  obtain ⟨t, ht⟩ : ∃ t, Hid (M1.isR r x now = t) := ⟨_, rfl⟩
  obtain ⟨u, hu⟩ : ∃ u, Hid (M1.isU r x now = u) := ⟨_, rfl⟩
  obtain ⟨kc, hk⟩ : ∃ k, Hid (M1.isC r x now = k) := ⟨_, rfl⟩
  rw [ht.out, hu.out, hk.out] at js
  refine js.mono ?_
  clear js
  rintro e w2 ⟨⟨v, rfl, v2, c2, rfl, mu2⟩, hb2⟩
  have B2 := B1.trans (hb2.mono B1.size)
  have z2 : RgAt w2 z 0 0 0 0 none 0 0 := z1.below hb2
  have y2 : RowAt w2 y 13 (uq M1.zeroU) := RowAt.below y1 hb2
  have hzq : ∀ q, v2 = some q → ¬ q.block = z := fun q hq => by
   rcases mu2.2.2 with ⟨_, e⟩ | ⟨g, e, h1, _, _⟩
   ·rw [e] at hq; cases hq
   ·rw [e] at hq; cases hq; show ¬ g = z; omega
  clear d0 d1 d2 d3 d4 pl e0 e1 e2 e3 e4 e5 e6 ol P1 O1 z1 y1
  obtain ⟨a0, a1, a2, a3, a4⟩ := z2.cells
  obtain ⟨b0, b1, b2, b3, b4⟩ := z2.frees
  have zl9 := z2.lt
  obtain ⟨ca0, ca1, ca2, ca3, ca4, ca5, ca6, ca7, ca8, ca9, ca10, ca11, ca12⟩ := uq_cells y2
  obtain ⟨fa0, fa1, fa2, fa3, fa4, fa5, fa6, fa7, fa8, fa9, fa10, fa11, fa12⟩ := uq_free y2
  have yl9 := y2.lt
  have zf : RgAt (((((w2.setCell ⟨z, 0, none⟩ (.int .i64 t.id)).setCell ⟨z, 1, none⟩ (.int .i64 t.a)).setCell ⟨z, 2, none⟩ (.int .i64 t.b)).setCell ⟨z, 3, none⟩ (.int .i64 t.c)).setCell ⟨z, 4, none⟩ (.slice v2 t.us.length c2)) z t.id t.a t.b t.c v2 t.us.length c2 := z2.put t.id t.a t.b t.c v2 t.us.length c2
  have yf : RowAt (((((w2.setCell ⟨z, 0, none⟩ (.int .i64 t.id)).setCell ⟨z, 1, none⟩ (.int .i64 t.a)).setCell ⟨z, 2, none⟩ (.int .i64 t.b)).setCell ⟨z, 3, none⟩ (.int .i64 t.c)).setCell ⟨z, 4, none⟩ (.slice v2 t.us.length c2)) y 13 (uq M1.zeroU) := far5 y2 hzy _ _ _ _ _
  have zz : RowAt ((((((((((((((((((w2.setCell ⟨z, 0, none⟩ (.int .i64 t.id)).setCell ⟨z, 1, none⟩ (.int .i64 t.a)).setCell ⟨z, 2, none⟩ (.int .i64 t.b)).setCell ⟨z, 3, none⟩ (.int .i64 t.c)).setCell ⟨z, 4, none⟩ (.slice v2 t.us.length c2)).setCell ⟨y, 0, none⟩ (.int .i64 u.dr)).setCell ⟨y, 1, none⟩ (.int .i64 u.dn)).setCell ⟨y, 2, none⟩ (.int .i64 u.sw)).setCell ⟨y, 3, none⟩ (.int .i64 u.sc)).setCell ⟨y, 4, none⟩ (.int .i64 u.sr)).setCell ⟨y, 5, none⟩ (.int .i64 u.k)).setCell ⟨y, 6, none⟩ (.int .i64 u.tr)).setCell ⟨y, 7, none⟩ (.int .i64 u.id)).setCell ⟨y, 8, none⟩ (.int .i64 u.pa)).setCell ⟨y, 9, none⟩ (.string u.s)).setCell ⟨y, 10, none⟩ (.int .i64 u.st)).setCell ⟨y, 11, none⟩ (.int .i64 u.en)).setCell ⟨y, 12, none⟩ (.int .i64 u.lv)) y 13 (uq u) := uq_put yf u
  have zr : RgAt ((((((((((((((((((w2.setCell ⟨z, 0, none⟩ (.int .i64 t.id)).setCell ⟨z, 1, none⟩ (.int .i64 t.a)).setCell ⟨z, 2, none⟩ (.int .i64 t.b)).setCell ⟨z, 3, none⟩ (.int .i64 t.c)).setCell ⟨z, 4, none⟩ (.slice v2 t.us.length c2)).setCell ⟨y, 0, none⟩ (.int .i64 u.dr)).setCell ⟨y, 1, none⟩ (.int .i64 u.dn)).setCell ⟨y, 2, none⟩ (.int .i64 u.sw)).setCell ⟨y, 3, none⟩ (.int .i64 u.sc)).setCell ⟨y, 4, none⟩ (.int .i64 u.sr)).setCell ⟨y, 5, none⟩ (.int .i64 u.k)).setCell ⟨y, 6, none⟩ (.int .i64 u.tr)).setCell ⟨y, 7, none⟩ (.int .i64 u.id)).setCell ⟨y, 8, none⟩ (.int .i64 u.pa)).setCell ⟨y, 9, none⟩ (.string u.s)).setCell ⟨y, 10, none⟩ (.int .i64 u.st)).setCell ⟨y, 11, none⟩ (.int .i64 u.en)).setCell ⟨y, 12, none⟩ (.int .i64 u.lv)) z t.id t.a t.b t.c v2 t.us.length c2 := far13 zf hyz u
  have BB : Below w.heap.size w ((((((((((((((((((w2.setCell ⟨z, 0, none⟩ (.int .i64 t.id)).setCell ⟨z, 1, none⟩ (.int .i64 t.a)).setCell ⟨z, 2, none⟩ (.int .i64 t.b)).setCell ⟨z, 3, none⟩ (.int .i64 t.c)).setCell ⟨z, 4, none⟩ (.slice v2 t.us.length c2)).setCell ⟨y, 0, none⟩ (.int .i64 u.dr)).setCell ⟨y, 1, none⟩ (.int .i64 u.dn)).setCell ⟨y, 2, none⟩ (.int .i64 u.sw)).setCell ⟨y, 3, none⟩ (.int .i64 u.sc)).setCell ⟨y, 4, none⟩ (.int .i64 u.sr)).setCell ⟨y, 5, none⟩ (.int .i64 u.k)).setCell ⟨y, 6, none⟩ (.int .i64 u.tr)).setCell ⟨y, 7, none⟩ (.int .i64 u.id)).setCell ⟨y, 8, none⟩ (.int .i64 u.pa)).setCell ⟨y, 9, none⟩ (.string u.s)).setCell ⟨y, 10, none⟩ (.int .i64 u.st)).setCell ⟨y, 11, none⟩ (.int .i64 u.en)).setCell ⟨y, 12, none⟩ (.int .i64 u.lv)) := bel_put (bel_put5 B2 hzw _ _ _ _ _) hyw u
  have hm : MU ((((((((((((((((((w2.setCell ⟨z, 0, none⟩ (.int .i64 t.id)).setCell ⟨z, 1, none⟩ (.int .i64 t.a)).setCell ⟨z, 2, none⟩ (.int .i64 t.b)).setCell ⟨z, 3, none⟩ (.int .i64 t.c)).setCell ⟨z, 4, none⟩ (.slice v2 t.us.length c2)).setCell ⟨y, 0, none⟩ (.int .i64 u.dr)).setCell ⟨y, 1, none⟩ (.int .i64 u.dn)).setCell ⟨y, 2, none⟩ (.int .i64 u.sw)).setCell ⟨y, 3, none⟩ (.int .i64 u.sc)).setCell ⟨y, 4, none⟩ (.int .i64 u.sr)).setCell ⟨y, 5, none⟩ (.int .i64 u.k)).setCell ⟨y, 6, none⟩ (.int .i64 u.tr)).setCell ⟨y, 7, none⟩ (.int .i64 u.id)).setCell ⟨y, 8, none⟩ (.int .i64 u.pa)).setCell ⟨y, 9, none⟩ (.string u.s)).setCell ⟨y, 10, none⟩ (.int .i64 u.st)).setCell ⟨y, 11, none⟩ (.int .i64 u.en)).setCell ⟨y, 12, none⟩ (.int .i64 u.lv)) v2 t.us.length c2 w1.heap.size ((((((((((((((((((w2.setCell ⟨z, 0, none⟩ (.int .i64 t.id)).setCell ⟨z, 1, none⟩ (.int .i64 t.a)).setCell ⟨z, 2, none⟩ (.int .i64 t.b)).setCell ⟨z, 3, none⟩ (.int .i64 t.c)).setCell ⟨z, 4, none⟩ (.slice v2 t.us.length c2)).setCell ⟨y, 0, none⟩ (.int .i64 u.dr)).setCell ⟨y, 1, none⟩ (.int .i64 u.dn)).setCell ⟨y, 2, none⟩ (.int .i64 u.sw)).setCell ⟨y, 3, none⟩ (.int .i64 u.sc)).setCell ⟨y, 4, none⟩ (.int .i64 u.sr)).setCell ⟨y, 5, none⟩ (.int .i64 u.k)).setCell ⟨y, 6, none⟩ (.int .i64 u.tr)).setCell ⟨y, 7, none⟩ (.int .i64 u.id)).setCell ⟨y, 8, none⟩ (.int .i64 u.pa)).setCell ⟨y, 9, none⟩ (.string u.s)).setCell ⟨y, 10, none⟩ (.int .i64 u.st)).setCell ⟨y, 11, none⟩ (.int .i64 u.en)).setCell ⟨y, 12, none⟩ (.int .i64 u.lv)).heap.size (ucell t.us) := mu_both mu2 hzq yl1 _ _ _ _ _ u
  go_wp2_with fail
  clear a0 a1 a2 a3 a4 b0 b1 b2 b3 b4 ca0 ca1 ca2 ca3 ca4 ca5 ca6 ca7 ca8 ca9 ca10 ca11 ca12 fa0 fa1 fa2 fa3 fa4 fa5 fa6 fa7 fa8 fa9 fa10 fa11 fa12 zf yf
  obtain ⟨Wz, hWz⟩ : ∃ W, ((((((((((((((((((w2.setCell ⟨z, 0, none⟩ (.int .i64 t.id)).setCell ⟨z, 1, none⟩ (.int .i64 t.a)).setCell ⟨z, 2, none⟩ (.int .i64 t.b)).setCell ⟨z, 3, none⟩ (.int .i64 t.c)).setCell ⟨z, 4, none⟩ (.slice v2 t.us.length c2)).setCell ⟨y, 0, none⟩ (.int .i64 u.dr)).setCell ⟨y, 1, none⟩ (.int .i64 u.dn)).setCell ⟨y, 2, none⟩ (.int .i64 u.sw)).setCell ⟨y, 3, none⟩ (.int .i64 u.sc)).setCell ⟨y, 4, none⟩ (.int .i64 u.sr)).setCell ⟨y, 5, none⟩ (.int .i64 u.k)).setCell ⟨y, 6, none⟩ (.int .i64 u.tr)).setCell ⟨y, 7, none⟩ (.int .i64 u.id)).setCell ⟨y, 8, none⟩ (.int .i64 u.pa)).setCell ⟨y, 9, none⟩ (.string u.s)).setCell ⟨y, 10, none⟩ (.int .i64 u.st)).setCell ⟨y, 11, none⟩ (.int .i64 u.en)).setCell ⟨y, 12, none⟩ (.int .i64 u.lv)) = W := ⟨_, rfl⟩
  rw [hWz] at zz zr BB hm ⊢
  clear hWz
  obtain ⟨r0, r1, r2, r3, r4⟩ := zr.cells
  obtain ⟨va0, va1, va2, va3, va4, va5, va6, va7, va8, va9, va10, va11, va12⟩ := uq_cells zz
  refine bodyPost_ret (v := .tuple #[.agg #[.int .i64 t.id, .int .i64 t.a, .int .i64 t.b, .int .i64 t.c, .slice v2 t.us.length c2], .agg #[.int .i64 u.dr, .int .i64 u.dn, .int .i64 u.sw, .int .i64 u.sc, .int .i64 u.sr, .int .i64 u.k, .int .i64 u.tr, .int .i64 u.id, .int .i64 u.pa, .string u.s, .int .i64 u.st, .int .i64 u.en, .int .i64 u.lv], .int .i64 kc]) (by simp [results, Tryz.results11, go_sem, r0, r1, r2, r3, r4, va0, va1, va2, va3, va4, va5, va6, va7, va8, va9, va10, va11, va12]) rfl ?_
  exact ⟨⟨_, by rw [hu.out, hk.out], by rw [ht.out]; exact ⟨v2, c2, rfl, mu_low hm hs1⟩⟩, BB⟩

end Go.Proofs.YtccendmoeelniaaGreatDoor
