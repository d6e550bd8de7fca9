/-
  Texts of one proof, joined: Rv3.
-/
import Derived.Test.YtccendmoeelniaaGreatDoorZReceived31
namespace M1
theorem rc_cases (r : Rg) (ys : List Upd) (now : Int) : (rOk r = false ∧ rcC r ys now = 1 ∧ rcR r ys now = zeroR) ∨ (rOk r = true ∧ (rcC r ys now = 2 ∨ rcC r ys now = 3 ∨ rcC r ys now = 4) ∧ rcR r ys now = r) ∨ (rOk r = true ∧ rcC r ys now = 0 ∧ rcR r ys now = rcN r ys now ∧ tOk r.us ys = true) := by
  cases q : rOk r with
  | false => exact .inl ⟨rfl, rc_1 q⟩
  | true =>
    cases q2 : rcF ys now with
    | true => have := rc_2 q q2; exact .inr (.inl ⟨rfl, .inl this.1, this.2⟩)
    | false =>
      cases q3 : tOk r.us ys with
      | false => have := rc_3 q q2 q3; exact .inr (.inl ⟨rfl, .inr (.inl this.1), this.2⟩)
      | true =>
        cases q4 : (mt r ys now).ok with
        | false => have := rc_4 q q2 q3 q4; exact .inr (.inl ⟨rfl, .inr (.inr this.1), this.2⟩)
        | true => have := rc_0 q q2 q3 q4; exact .inr (.inr ⟨rfl, this.1, this.2, rfl⟩)

end M1
namespace Go.Proofs.YtccendmoeelniaaGreatDoor
open Go.ChangeShapes Go.WideShapes Go.ChangeAt Go.RowKit
set_option linter.unusedSimpArgs false
set_option linter.unusedVariables false
def RgD (w w' : World) (v : Value) (r : M1.Rg) : Prop := ∃ av cap, v = .agg #[.int .i64 r.id, .int .i64 r.a, .int .i64 r.b, .int .i64 r.c, .slice av r.us.length cap] ∧ MU w' av r.us.length cap w.heap.size w'.heap.size (ucell r.us)

theorem err_some (w : World) (a : Addr) : (binOp .neq 82 (.iface 126 (.pointer (some a))) .nilIface).run Tryz.prog w = .ok (.bool true) w := by kernel_rfl

theorem err_none (w : World) : (binOp .neq 82 .nilIface .nilIface).run Tryz.prog w = .ok (.bool false) w := by kernel_rfl

theorem rOk_short {r : M1.Rg} (h : M1.rOk r = true) : (∀ i, i < r.us.length → (M1.up r.us i).s.size ≤ 1000) ∧ r.us.length ≤ 60 :=
  ⟨fun i hi => by have := M1.ok_txt (M1.okAt_ok (M1.setOk_all (M1.rOk_set h) i hi)); omega, M1.setOk_len (M1.rOk_set h)⟩

set_option maxHeartbeats 8000000 in
set_option maxRecDepth 100000 in
theorem received_impl (s0 s1 s2 s3 s4 : Addr) (r : M1.Rg) (av bv : Option Addr) (n cn m cm : Nat) (ys : List M1.Upd) (now : Int) (w : World) (S : Sens w s0 s1 s2 s3 s4) (hU : IsUpds w av n cn r.us) (h2 : IsUpds w bv m cm ys) :
    Calls Tryz.prog 20 #[.agg #[.int .i64 r.id, .int .i64 r.a, .int .i64 r.b, .int .i64 r.c, .slice av n cn], .slice bv m cm, .int .i64 now] w fun e w' => (∃ v, e = .returned (.tuple #[v, .int .i64 (M1.rcC r ys now)]) ∧ RgD w w' v (M1.rcR r ys now)) ∧ Below w.heap.size w w' := by
  have hln : Hid (r.us.length = n) := hU.hlen
  have hA : Below w.heap.size w ((w.alloc (.cells #[.int .i64 r.id, .int .i64 r.a, .int .i64 r.b, .int .i64 r.c, .slice av n cn] 28)).alloc (.cells #[.int .i64 0, .int .i64 0, .int .i64 0, .int .i64 0, .slice none 0 0] 28)) := ((Below.refl _ _).alloc (Nat.le_refl _) _).alloc (by simp) _
  have P0 : RgAt ((w.alloc (.cells #[.int .i64 r.id, .int .i64 r.a, .int .i64 r.b, .int .i64 r.c, .slice av n cn] 28)).alloc (.cells #[.int .i64 0, .int .i64 0, .int .i64 0, .int .i64 0, .slice none 0 0] 28)) w.heap.size r.id r.a r.b r.c av n cn := (rg_new w r.id r.a r.b r.c av n cn 28).alloc _
  have z0 := rg_new (w.alloc (.cells #[.int .i64 r.id, .int .i64 r.a, .int .i64 r.b, .int .i64 r.c, .slice av n cn] 28)) 0 0 0 0 none 0 0 28
  simp only [World.size_alloc] at z0
  go_enter Tryz.func20, Tryz.ntmps20
  go_upto_region 1 with fail
  obtain ⟨W0, hW0⟩ : ∃ W, (w.alloc (.cells #[.int .i64 r.id, .int .i64 r.a, .int .i64 r.b, .int .i64 r.c, .slice av n cn] 28)).alloc (.cells #[.int .i64 0, .int .i64 0, .int .i64 0, .int .i64 0, .slice none 0 0] 28) = W := ⟨_, rfl⟩
  rw [hW0] at hA P0 z0 ⊢
  clear hW0
  obtain ⟨p, hp⟩ : ∃ p, Hid (w.heap.size = p) := ⟨_, rfl⟩
  obtain ⟨z, hz⟩ : ∃ z, Hid (w.heap.size + 1 = z) := ⟨_, rfl⟩
  have hzw : w.heap.size ≤ z := by have := hz.out; omega
  have hpw : w.heap.size ≤ p := by have := hp.out; omega
  rw [hz.out] at z0 ⊢
  rw [hp.out] at P0 ⊢
  have S0 := S.below hA
  have hzl := z0.lt
  go_wp2_with fail
  refine (receive_any p s0 s1 s2 s3 s4 r _ _ _ _ _ _ ys now _ S0 P0 (hU.below hA) (h2.below hA)).mono ?_
  rintro e w1 ⟨⟨k, rr, HC, k1, k4, rfl, hR⟩ | ⟨HC, q, v2, c2, rfl, hQ, mu⟩, hb1⟩
  · have B1 := hA.trans (hb1.mono hA.size)
    have S1 := S.below B1
    have P1 : RgAt w1 p r.id r.a r.b r.c av n cn := P0.below hb1
    have z1 : RgAt w1 z 0 0 0 0 none 0 0 := z0.below hb1
    have hes := err_some w1 ⟨rr, 0, none⟩
    go_wp2_with fail
    by_cases hk1 : k = 1
    · subst hk1
      have HQ : Hid (M1.rcR r ys now = M1.zeroR) := (by
        rcases M1.rc_cases r ys now with q | q | q
        · exact q.2.2
        · have h9 := HC.out; rcases q.2.1 with q | q | q <;> rw [q] at h9 <;> cases h9
        · have h9 := HC.out; rw [q.2.1] at h9; omega : _ = _)
      refine (leftBy_none rr _ s0 s1 s2 s3 s4 w1 S1 hR).mono ?_
      rintro e w2 ⟨rfl, hb2⟩
      have B2 := B1.trans (hb2.mono B1.size)
      have S2 := S.below B2
      have z2 : RgAt w2 z 0 0 0 0 none 0 0 := z1.below hb2
      have hR2 : Rfs w2 rr s0 none := hR.below hb2
      go_wp2_with fail
      refine (codeOf_any rr 1 s0 s1 s2 s3 s4 _ S2 (by omega) hR2.c0).mono ?_
      rintro e w3 ⟨rfl, rfl⟩
      have mu0 : MU w3 none 0 0 w.heap.size w3.heap.size (ucell []) := ⟨Nat.le_refl _, Nat.zero_le _, .inl ⟨rfl, rfl⟩⟩
      have hzq : ∀ q, (none : Option Addr) = some q → ¬ q.block = z := fun q hq => by cases hq
      obtain ⟨f0, f1, f2, f3, f4⟩ := z2.frees
      obtain ⟨e0, e1, e2, e3, e4⟩ := z2.cells
      have zl := z2.lt
      have zf := z2.put 0 0 0 0 none 0 0
      have hBz := bel_put5 B2 hzw (.int .i64 0) (.int .i64 0) (.int .i64 0) (.int .i64 0) (.slice none 0 0)
      have hmz := mu_put5 mu0 hzq (.int .i64 0) (.int .i64 0) (.int .i64 0) (.int .i64 0) (.slice none 0 0)
      go_wp2_with fail
      obtain ⟨Wz, hWz⟩ : ∃ W, ((((w3.setCell ⟨z, 0, none⟩ (.int .i64 0)).setCell ⟨z, 1, none⟩ (.int .i64 0)).setCell ⟨z, 2, none⟩ (.int .i64 0)).setCell ⟨z, 3, none⟩ (.int .i64 0)).setCell ⟨z, 4, none⟩ (.slice none 0 0) = W := ⟨_, rfl⟩
      rw [hWz] at zf hBz hmz ⊢
      clear hWz f0 f1 f2 f3 f4 e0 e1 e2 e3 e4
      obtain ⟨v0, v1, v2', v3, v4⟩ := zf.cells
      refine bodyPost_ret (v := .tuple #[.agg #[.int .i64 0, .int .i64 0, .int .i64 0, .int .i64 0, .slice none 0 0], .int .i64 1]) (by simp [results, Tryz.results20, go_sem, v0, v1, v2', v3, v4]) rfl ?_
      exact ⟨⟨_, by rw [HC.out]; rfl, by rw [HQ.out]; exact ⟨none, 0, rfl, hmz⟩⟩, hBz⟩
    · have HQ : Hid (M1.rOk r = true ∧ M1.rcR r ys now = r) := (by
        rcases M1.rc_cases r ys now with q | q | q
        · have h9 := HC.out; rw [q.2.1] at h9; exact absurd (by omega : k = 1) hk1
        · exact ⟨q.1, q.2.2⟩
        · have h9 := HC.out; rw [q.2.1] at h9; omega : _ ∧ _)
      have hsh := rOk_short HQ.out.1
      rw [hln.out] at hsh
      have hR' : Rfs w1 rr (senAt s0 s1 s2 s3 s4 k) (some ⟨p, 0, none⟩) := by rw [if_neg hk1] at hR; exact hR
      have hUw := (hU.below hA).below hb1
      refine (leftBy_some rr p _ s0 s1 s2 s3 s4 r.id r.a r.b r.c _ _ _ r.us w1 S1 hR' P1 hUw hsh.1 hsh.2).mono ?_
      rintro e w2 ⟨⟨v2, c2, rfl, mu2⟩, hb2⟩
      have B2 := B1.trans (hb2.mono B1.size)
      have S2 := S.below B2
      have z2 : RgAt w2 z 0 0 0 0 none 0 0 := z1.below hb2
      have hR2 : Rfs w2 rr (senAt s0 s1 s2 s3 s4 k) (some ⟨p, 0, none⟩) := hR'.below hb2
      have hzl1 := z1.lt
      go_wp2_with fail
      refine (codeOf_any rr k s0 s1 s2 s3 s4 _ S2 (by omega) hR2.c0).mono ?_
      rintro e w3 ⟨rfl, rfl⟩
      have hzq : ∀ q, v2 = some q → ¬ q.block = z := fun q hq => by
        rcases mu2.2.2 with ⟨_, e⟩ | ⟨g, e, h1, _, _⟩
        · rw [e] at hq; cases hq
        · rw [e] at hq; cases hq; show ¬ g = z; omega
      obtain ⟨f0, f1, f2, f3, f4⟩ := z2.frees
      obtain ⟨e0, e1, e2, e3, e4⟩ := z2.cells
      have zl := z2.lt
      have zf := z2.put r.id r.a r.b r.c v2 n c2
      have hBz := bel_put5 B2 hzw (.int .i64 r.id) (.int .i64 r.a) (.int .i64 r.b) (.int .i64 r.c) (.slice v2 n c2)
      have hmz := mu_put5 mu2 hzq (.int .i64 r.id) (.int .i64 r.a) (.int .i64 r.b) (.int .i64 r.c) (.slice v2 n c2)
      go_wp2_with fail
      obtain ⟨Wz, hWz⟩ : ∃ W, ((((w3.setCell ⟨z, 0, none⟩ (.int .i64 r.id)).setCell ⟨z, 1, none⟩ (.int .i64 r.a)).setCell ⟨z, 2, none⟩ (.int .i64 r.b)).setCell ⟨z, 3, none⟩ (.int .i64 r.c)).setCell ⟨z, 4, none⟩ (.slice v2 n c2) = W := ⟨_, rfl⟩
      rw [hWz] at zf hBz hmz ⊢
      clear hWz f0 f1 f2 f3 f4 e0 e1 e2 e3 e4
      obtain ⟨v0, v1, v2', v3, v4⟩ := zf.cells
      refine bodyPost_ret (v := .tuple #[.agg #[.int .i64 r.id, .int .i64 r.a, .int .i64 r.b, .int .i64 r.c, .slice v2 n c2], .int .i64 (k : Int)]) (by simp [results, Tryz.results20, go_sem, v0, v1, v2', v3, v4]) rfl ?_
      have hs1 := B1.size
      exact ⟨⟨_, by rw [HC.out], by rw [HQ.out.2]; exact ⟨v2, c2, by rw [hln.out], by rw [hln.out]; exact ⟨hmz.1, hmz.2.1, hmz.2.2.imp (fun h => h) fun ⟨g, e, h1, h2, r⟩ => ⟨g, e, by omega, h2, r⟩⟩⟩⟩, hBz⟩
  · have B1 := hA.trans (hb1.mono hA.size)
    have hes := err_none w1
    have z1 : RgAt w1 z 0 0 0 0 none 0 0 := z0.below hb1
    have HQ : Hid (M1.rcR r ys now = M1.rcN r ys now) := (by
      rcases M1.rc_cases r ys now with q | q | q
      · have h9 := HC.out; rw [q.2.1] at h9; cases h9
      · have h9 := HC.out; rcases q.2.1 with q | q | q <;> rw [q] at h9 <;> cases h9
      · exact q.2.2.1 : _ = _)
    obtain ⟨T, hT⟩ : ∃ T, Hid (M1.tL r.us ys = T) := ⟨_, rfl⟩
    obtain ⟨t, ht⟩ : ∃ t, Hid (M1.mt r ys now = t) := ⟨_, rfl⟩
    rw [ht.out, hT.out] at hQ
    rw [hT.out] at mu
    obtain ⟨d0, d1, d2, d3, d4⟩ := hQ.cells
    have ql := hQ.lt
    have hzq : ∀ q, v2 = some q → ¬ q.block = z := fun q hq => by
      rcases mu.2.2 with ⟨_, e⟩ | ⟨g, e, h1, _, _⟩
      · rw [e] at hq; cases hq
      · rw [e] at hq; cases hq; show ¬ g = z; omega
    obtain ⟨f0, f1, f2, f3, f4⟩ := z1.frees
    obtain ⟨e0, e1, e2, e3, e4⟩ := z1.cells
    have zl := z1.lt
    have zf := z1.put r.id t.a t.b t.c v2 T.length c2
    have hBz := bel_put5 B1 hzw (.int .i64 r.id) (.int .i64 t.a) (.int .i64 t.b) (.int .i64 t.c) (.slice v2 T.length c2)
    have hmz := mu_put5 mu hzq (.int .i64 r.id) (.int .i64 t.a) (.int .i64 t.b) (.int .i64 t.c) (.slice v2 T.length c2)
    go_wp2_with fail
    obtain ⟨Wz, hWz⟩ : ∃ W, ((((w1.setCell ⟨z, 0, none⟩ (.int .i64 r.id)).setCell ⟨z, 1, none⟩ (.int .i64 t.a)).setCell ⟨z, 2, none⟩ (.int .i64 t.b)).setCell ⟨z, 3, none⟩ (.int .i64 t.c)).setCell ⟨z, 4, none⟩ (.slice v2 T.length c2) = W := ⟨_, rfl⟩
    rw [hWz] at zf hBz hmz ⊢
    clear hWz f0 f1 f2 f3 f4 e0 e1 e2 e3 e4
    obtain ⟨v0, v1, v2', v3, v4⟩ := zf.cells
    refine bodyPost_ret (v := .tuple #[.agg #[.int .i64 r.id, .int .i64 t.a, .int .i64 t.b, .int .i64 t.c, .slice v2 T.length c2], .int .i64 0]) (by simp [results, Tryz.results20, go_sem, v0, v1, v2', v3, v4]) rfl ?_
    have hs0 := hA.size
    exact ⟨⟨_, by rw [HC.out], by rw [HQ.out]; unfold M1.rcN; rw [ht.out, hT.out]; exact ⟨v2, c2, rfl, ⟨hmz.1, hmz.2.1, hmz.2.2.imp (fun h => h) fun ⟨g, e, h1, h2, r⟩ => ⟨g, e, by omega, h2, r⟩⟩⟩⟩, hBz⟩

end Go.Proofs.YtccendmoeelniaaGreatDoor
