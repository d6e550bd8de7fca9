/-
  Texts of one proof, joined: Rv6, Mk1.
-/
import Derived.Test.YtccendmoeelniaaGreatDoorZReceived48
import Derived.Test.YtccendmoeelniaaGreatDoorZReceived09
namespace Go.Proofs.YtccendmoeelniaaGreatDoor
open Go.ChangeShapes Go.WideShapes Go.ChangeAt Go.RowKit
set_option linter.unusedSimpArgs false
set_option linter.unusedVariables false

set_option maxHeartbeats 8000000 in
set_option maxRecDepth 100000 in
theorem received_spec (r : M1.Rg) (av bv : Option Addr) (n cn m cm : Nat) (ys : List M1.Upd) (now : Int) (w : World) (hU : IsUpds w av n cn r.us) (h2 : IsUpds w bv m cm ys) :
    Calls Tryz.prog 21 #[.agg #[.int .i64 r.id, .int .i64 r.a, .int .i64 r.b, .int .i64 r.c, .slice av n cn], .slice bv m cm, .int .i64 now] w fun e w' => RcS w w' e r ys now ∧ Below w.heap.size w w' := by
  have hA : Below w.heap.size w ((w.alloc (.cells #[.int .i64 r.id, .int .i64 r.a, .int .i64 r.b, .int .i64 r.c, .slice av n cn] 28)).alloc (.cells #[.int .i64 0, .int .i64 0, .int .i64 0, .int .i64 0, .slice none 0 0] 28)) := ((Below.refl _ _).alloc (Nat.le_refl _) _).alloc (by simp) _
  have P0 : RgAt ((w.alloc (.cells #[.int .i64 r.id, .int .i64 r.a, .int .i64 r.b, .int .i64 r.c, .slice av n cn] 28)).alloc (.cells #[.int .i64 0, .int .i64 0, .int .i64 0, .int .i64 0, .slice none 0 0] 28)) w.heap.size r.id r.a r.b r.c av n cn := (rg_new w r.id r.a r.b r.c av n cn 28).alloc _
  have z0 := rg_new (w.alloc (.cells #[.int .i64 r.id, .int .i64 r.a, .int .i64 r.b, .int .i64 r.c, .slice av n cn] 28)) 0 0 0 0 none 0 0 28
  simp only [World.size_alloc] at z0
  obtain ⟨o1, ho1⟩ : ∃ o, Hid (M1.rOk r = o) := ⟨_, rfl⟩
  go_enter Tryz.func21, Tryz.ntmps21
  go_upto_region 1 with fail
  obtain ⟨W0, hW0⟩ : ∃ W, (w.alloc (.cells #[.int .i64 r.id, .int .i64 r.a, .int .i64 r.b, .int .i64 r.c, .slice av n cn] 28)).alloc (.cells #[.int .i64 0, .int .i64 0, .int .i64 0, .int .i64 0, .slice none 0 0] 28) = W := ⟨_, rfl⟩
  rw [hW0] at hA P0 z0 ⊢
  clear hW0
  obtain ⟨p, hp⟩ : ∃ p, Hid (w.heap.size = p) := ⟨_, rfl⟩
  obtain ⟨z, hz⟩ : ∃ z, Hid (w.heap.size + 1 = z) := ⟨_, rfl⟩
  have hzw : w.heap.size ≤ z := by have := hz.out; omega
  rw [hz.out] at z0 ⊢
  rw [hp.out] at P0 ⊢
  obtain ⟨d0, d1, d2, d3, d4⟩ := P0.cells
  have pl := P0.lt
  have zl := z0.lt
  go_wp2_with fail
  refine (regionOk_spec r.id r.a r.b r.c _ _ _ _ _ (hU.below hA)).mono ?_
  rw [show M1.regOk r.id r.a r.b r.c r.us = o1 from ho1.out]
  rintro e w1 ⟨rfl, hb1⟩
  have B1 := hA.trans (hb1.mono hA.size)
  have P1 : RgAt w1 p r.id r.a r.b r.c av n cn := P0.below hb1
  have z1 : RgAt w1 z 0 0 0 0 none 0 0 := z0.below hb1
  clear d0 d1 d2 d3 d4 P0 z0
  cases o1 with
  | false =>
    have HC : Hid (M1.rcC r ys now = 1 ∧ M1.rcR r ys now = M1.zeroR) := M1.rc_1 ho1.out
    have mu0 : MU w1 none 0 0 w.heap.size w1.heap.size (ucell []) := ⟨Nat.le_refl _, Nat.zero_le _, .inl ⟨rfl, rfl⟩⟩
    have hzq : ∀ q, (none : Option Addr) = some q → ¬ q.block = z := fun q hq => by cases hq
    obtain ⟨f0, f1, f2, f3, f4⟩ := z1.frees
    obtain ⟨e0, e1, e2, e3, e4⟩ := z1.cells
    have zl1 := z1.lt
    have zf := z1.put 0 0 0 0 none 0 0
    have hBz := bel_put5 B1 hzw (.int .i64 0) (.int .i64 0) (.int .i64 0) (.int .i64 0) (.slice none 0 0)
    have hmz := mu_put5 mu0 hzq (.int .i64 0) (.int .i64 0) (.int .i64 0) (.int .i64 0) (.slice none 0 0)
    go_wp2_with fail
    obtain ⟨Wz, hWz⟩ : ∃ W, ((((w1.setCell ⟨z, 0, none⟩ (.int .i64 0)).setCell ⟨z, 1, none⟩ (.int .i64 0)).setCell ⟨z, 2, none⟩ (.int .i64 0)).setCell ⟨z, 3, none⟩ (.int .i64 0)).setCell ⟨z, 4, none⟩ (.slice none 0 0) = W := ⟨_, rfl⟩
    rw [hWz] at zf hBz hmz ⊢
    clear hWz f0 f1 f2 f3 f4 e0 e1 e2 e3 e4
    obtain ⟨x0, x1, x2, x3, x4⟩ := zf.cells
    refine bodyPost_ret (v := .tuple #[.agg #[.int .i64 0, .int .i64 0, .int .i64 0, .int .i64 0, .slice none 0 0], .int .i64 1]) (by simp [results, Tryz.results21, go_sem, x0, x1, x2, x3, x4]) rfl ?_
    exact ⟨⟨_, by rw [HC.out.1], by rw [HC.out.2]; exact ⟨none, 0, rfl, hmz⟩⟩, hBz⟩
  | true =>
    obtain ⟨d0, d1, d2, d3, d4⟩ := P1.cells
    have pl1 := P1.lt
    have zl1 := z1.lt
    have hs1 := B1.size
    go_wp2_with fail
    refine (l5Received_any r _ _ _ _ _ _ ys now _ (hU.below B1) (h2.below B1) ho1).mono ?_
    rintro e w2 ⟨⟨v, rfl, v2, c2, rfl, mu2⟩, hb2⟩
    obtain ⟨x, hx⟩ : ∃ x, Hid (M1.rcR r ys now = x) := ⟨_, rfl⟩
    rw [hx.out] at mu2 ⊢
    have B2 := B1.trans (hb2.mono B1.size)
    have z2 : RgAt w2 z 0 0 0 0 none 0 0 := z1.below hb2
    have hzq : ∀ q, v2 = some q → ¬ q.block = z := fun q hq => by
      rcases mu2.2.2 with ⟨_, e⟩ | ⟨g, e, h1, _, _⟩
      · rw [e] at hq; cases hq
      · rw [e] at hq; cases hq; show ¬ g = z; omega
    clear d0 d1 d2 d3 d4
    obtain ⟨f0, f1, f2, f3, f4⟩ := z2.frees
    obtain ⟨e0, e1, e2, e3, e4⟩ := z2.cells
    have zl2 := z2.lt
    have zf := z2.put x.id x.a x.b x.c v2 x.us.length c2
    have hBz := bel_put5 B2 hzw (.int .i64 x.id) (.int .i64 x.a) (.int .i64 x.b) (.int .i64 x.c) (.slice v2 x.us.length c2)
    have hmz := mu_put5 mu2 hzq (.int .i64 x.id) (.int .i64 x.a) (.int .i64 x.b) (.int .i64 x.c) (.slice v2 x.us.length c2)
    go_wp2_with fail
    obtain ⟨Wz, hWz⟩ : ∃ W, ((((w2.setCell ⟨z, 0, none⟩ (.int .i64 x.id)).setCell ⟨z, 1, none⟩ (.int .i64 x.a)).setCell ⟨z, 2, none⟩ (.int .i64 x.b)).setCell ⟨z, 3, none⟩ (.int .i64 x.c)).setCell ⟨z, 4, none⟩ (.slice v2 x.us.length c2) = W := ⟨_, rfl⟩
    rw [hWz] at zf hBz hmz ⊢
    clear hWz f0 f1 f2 f3 f4 e0 e1 e2 e3 e4
    obtain ⟨x0, x1, x2, x3, x4⟩ := zf.cells
    refine bodyPost_ret (v := .tuple #[.agg #[.int .i64 x.id, .int .i64 x.a, .int .i64 x.b, .int .i64 x.c, .slice v2 x.us.length c2], .int .i64 (M1.rcC r ys now)]) (by simp [results, Tryz.results21, go_sem, x0, x1, x2, x3, x4]) rfl ?_
    exact ⟨⟨_, rfl, by rw [hx.out]; exact ⟨v2, c2, rfl, mu_wid hmz (by omega)⟩⟩, hBz⟩
end Go.Proofs.YtccendmoeelniaaGreatDoor

namespace M1
theorem rc_set (r : Rg) (ys : List Upd) (now : Int) : setOk (rcR r ys now).us = true := by
  rcases rc_cases r ys now with ⟨_, _, q⟩ | ⟨q, _, q2⟩ | ⟨_, _, q, q2⟩
  · rw [q]; rfl
  · rw [q2]; exact rOk_set q
  · rw [q]; exact (tOk_true q2).2.2.1
end M1
namespace Go.Proofs.YtccendmoeelniaaGreatDoor
open Go.ChangeShapes Go.WideShapes Go.ChangeAt Go.RowKit
set_option linter.unusedSimpArgs false
set_option linter.unusedVariables false

theorem set_short {us : List M1.Upd} (h : M1.setOk us = true) : ∀ i, i < us.length → (M1.up us i).s.size ≤ maxLen := fun i hi => by
  have := M1.ok_txt (M1.okAt_ok (M1.setOk_all h i hi))
  unfold maxLen; omega

set_option maxHeartbeats 2000000 in
theorem markRegion_some (id a b c : Int) (g n cap : Nat) (f : Nat → Value) (k : Int) (w : World) (h : RowAt w g (n * 13) f) (hc : n ≤ cap) (hm : cap ≤ maxLen) (hn : n ≤ 1048576) (hk : 0 ≤ k) (hk2 : k ≤ 100000000) :
    Calls Tryz.prog 33 #[.agg #[.int .i64 id, .int .i64 a, .int .i64 b, .int .i64 c, .slice (some ⟨g, 0, none⟩) n cap], .int .i64 k] w fun e w' => e = .returned (.int .i64 (k + 13 * n)) ∧ Gr g w w' := by
  have hA : Below w.heap.size w (w.alloc (.cells #[.int .i64 id, .int .i64 a, .int .i64 b, .int .i64 c, .slice (some ⟨g, 0, none⟩) n cap] 28)) := (Below.refl _ _).alloc (Nat.le_refl _) _
  have P := rg_new w id a b c (some ⟨g, 0, none⟩) n cap 28
  go_enter Tryz.func33, Tryz.ntmps33
  go_upto_region 1 with fail
  obtain ⟨W0, hW0⟩ : ∃ W, w.alloc (.cells #[.int .i64 id, .int .i64 a, .int .i64 b, .int .i64 c, .slice (some ⟨g, 0, none⟩) n cap] 28) = W := ⟨_, rfl⟩
  rw [hW0] at hA P ⊢
  clear hW0
  obtain ⟨d0, d1, d2, d3, d4⟩ := P.cells
  have pl := P.lt
  go_wp2_with fail
  refine (markU_some g n cap f k _ (h.below hA) hc hm hn hk hk2).mono ?_
  rintro e w1 ⟨rfl, _, G1⟩
  go_wp2_with fail
  go_ret
  exact ⟨rfl, gr_trans (gr_below hA) G1⟩

set_option maxHeartbeats 2000000 in
theorem markRegion_any (id a b c : Int) (av : Option Addr) (n cap lo hi : Nat) (us : List M1.Upd) (k : Int) (w : World) (h : MU w av n cap lo hi (ucell us)) (hn : n ≤ 1048576) (hk : 0 ≤ k) (hk2 : k ≤ 100000000) :
    Calls Tryz.prog 33 #[.agg #[.int .i64 id, .int .i64 a, .int .i64 b, .int .i64 c, .slice av n cap], .int .i64 k] w fun e w' => e = .returned (.int .i64 (k + 13 * n)) ∧ MU w' av n cap lo hi (mcell k) ∧ MkU av w w' := by
  have hA : Below w.heap.size w (w.alloc (.cells #[.int .i64 id, .int .i64 a, .int .i64 b, .int .i64 c, .slice av n cap] 28)) := (Below.refl _ _).alloc (Nat.le_refl _) _
  have P := rg_new w id a b c av n cap 28
  go_enter Tryz.func33, Tryz.ntmps33
  go_upto_region 1 with fail
  obtain ⟨W0, hW0⟩ : ∃ W, w.alloc (.cells #[.int .i64 id, .int .i64 a, .int .i64 b, .int .i64 c, .slice av n cap] 28) = W := ⟨_, rfl⟩
  rw [hW0] at hA P ⊢
  clear hW0
  obtain ⟨d0, d1, d2, d3, d4⟩ := P.cells
  have pl := P.lt
  go_wp2_with fail
  refine (markU_any _ _ _ _ _ _ k _ (h.below hA) hn hk hk2).mono ?_
  rintro e w1 ⟨rfl, mu, mk⟩
  go_wp2_with fail
  go_ret
  exact ⟨rfl, mu, fun e => hA.trans ((mk.1 e).mono hA.size), fun g e => gr_trans (gr_below hA) (mk.2 g e)⟩

set_option maxHeartbeats 2000000 in
theorem heldRegion_any (id a b c : Int) (av : Option Addr) (n cap lo hi : Nat) (k : Int) (w : World) (h : MU w av n cap lo hi (mcell k)) (hn : n ≤ 1048576) (hk : 0 ≤ k) (hk2 : k ≤ 100000000) :
    Calls Tryz.prog 34 #[.agg #[.int .i64 id, .int .i64 a, .int .i64 b, .int .i64 c, .slice av n cap], .int .i64 k] w fun e w' => e = .returned (.int .i64 (k + 13 * n)) ∧ Below w.heap.size w w' := by
  have hA : Below w.heap.size w (w.alloc (.cells #[.int .i64 id, .int .i64 a, .int .i64 b, .int .i64 c, .slice av n cap] 28)) := (Below.refl _ _).alloc (Nat.le_refl _) _
  have P := rg_new w id a b c av n cap 28
  go_enter Tryz.func34, Tryz.ntmps34
  go_upto_region 1 with fail
  obtain ⟨W0, hW0⟩ : ∃ W, w.alloc (.cells #[.int .i64 id, .int .i64 a, .int .i64 b, .int .i64 c, .slice av n cap] 28) = W := ⟨_, rfl⟩
  rw [hW0] at hA P ⊢
  clear hW0
  obtain ⟨d0, d1, d2, d3, d4⟩ := P.cells
  have pl := P.lt
  go_wp2_with fail
  refine (heldU_any _ _ _ _ _ k _ (h.below hA) hn hk hk2).mono ?_
  rintro e w1 ⟨rfl, hb1⟩
  have e1 : ¬ (k + 13 * (n : Int)) < 0 := by omega
  go_wp2_with fail
  go_ret
  exact ⟨rfl, hA.trans (hb1.mono hA.size)⟩
end Go.Proofs.YtccendmoeelniaaGreatDoor
