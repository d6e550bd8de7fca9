/-
  Texts of one proof, joined: Is4, Rv2.
-/
import Derived.Test.YtccendmoeelniaaGreatDoorZReceived26
import Derived.Test.YtccendmoeelniaaGreatDoorZReceived27
import Derived.Test.YtccendmoeelniaaGreatDoorZReceived30
import Derived.Test.YtccendmoeelniaaGreatDoorZReceived18
import Derived.Test.YtccendmoeelniaaGreatDoorZReceived22
namespace Go.Proofs.YtccendmoeelniaaGreatDoor
open Go.ChangeShapes Go.WideShapes Go.ChangeAt Go.RowKit
set_option linter.unusedSimpArgs false
set_option linter.unusedVariables false
theorem mu_put13 {w : World} {av : Option Addr} {n cap lo hi z : Nat} {f : Nat → Value} (h : MU w av n cap lo hi f) (hz : z < lo) (u : M1.Upd) : MU (((((((((((((w.setCell ⟨z, 0, none⟩ (.int .i64 u.dr)).setCell ⟨z, 1, none⟩ (.int .i64 u.dn)).setCell ⟨z, 2, none⟩ (.int .i64 u.sw)).setCell ⟨z, 3, none⟩ (.int .i64 u.sc)).setCell ⟨z, 4, none⟩ (.int .i64 u.sr)).setCell ⟨z, 5, none⟩ (.int .i64 u.k)).setCell ⟨z, 6, none⟩ (.int .i64 u.tr)).setCell ⟨z, 7, none⟩ (.int .i64 u.id)).setCell ⟨z, 8, none⟩ (.int .i64 u.pa)).setCell ⟨z, 9, none⟩ (.string u.s)).setCell ⟨z, 10, none⟩ (.int .i64 u.st)).setCell ⟨z, 11, none⟩ (.int .i64 u.en)).setCell ⟨z, 12, none⟩ (.int .i64 u.lv)) av n cap lo hi f :=
  ⟨h.1, h.2.1, h.2.2.imp (fun h => h) fun ⟨k, e, h3, h4, r⟩ => ⟨k, e, h3, h4, far13 r (by omega) u⟩⟩

theorem nuV_s {r : M1.Rg} {x : M1.OpV} {a b c : Int} {n : Nat} (h : x.s.size ≤ maxLen) : (nuV r x a b c n).s.size ≤ maxLen := by
  unfold nuV
  split
  · exact h
  · split <;> exact Nat.zero_le _

end Go.Proofs.YtccendmoeelniaaGreatDoor

namespace Go.Proofs.YtccendmoeelniaaGreatDoor
open Go.ChangeShapes Go.WideShapes Go.ChangeAt Go.RowKit
set_option linter.unusedSimpArgs false
set_option linter.unusedVariables false
def RecI (w w' : World) (e : Ending) (s0 s1 s2 s3 s4 : Addr) (p : Nat) (r : M1.Rg) (ys : List M1.Upd) (now : Int) : Prop :=
  (∃ k rr : Nat, Hid (M1.rcC r ys now = (k : Int)) ∧ 1 ≤ k ∧ k ≤ 4 ∧ e = .returned (.tuple #[.pointer none, .iface 126 (.pointer (some ⟨rr, 0, none⟩))]) ∧ Rfs w' rr (senAt s0 s1 s2 s3 s4 k) (if k = 1 then none else some ⟨p, 0, none⟩)) ∨
  (Hid (M1.rcC r ys now = 0) ∧ ∃ (q : Nat) (v2 : Option Addr) (c2 : Nat), e = .returned (.tuple #[.pointer (some ⟨q, 0, none⟩), .nilIface]) ∧ RgAt w' q r.id (M1.mt r ys now).a (M1.mt r ys now).b (M1.mt r ys now).c v2 (M1.tL r.us ys).length c2 ∧ MU w' v2 (M1.tL r.us ys).length c2 w.heap.size w'.heap.size (ucell (M1.tL r.us ys)))

set_option maxHeartbeats 8000000 in
set_option maxRecDepth 100000 in
theorem receive_any (p : Nat) (s0 s1 s2 s3 s4 : Addr) (r : M1.Rg) (av bv : Option Addr) (n cn m cm : Nat) (ys : List M1.Upd) (now : Int) (w : World) (S : Sens w s0 s1 s2 s3 s4) (hP : RgAt w p r.id r.a r.b r.c av n cn) (hU : IsUpds w av n cn r.us) (h2 : IsUpds w bv m cm ys) :
    Calls Tryz.prog 60 #[.pointer (some ⟨p, 0, none⟩), .slice bv m cm, .int .i64 now] w fun e w' => RecI w w' e s0 s1 s2 s3 s4 p r ys now ∧ Below w.heap.size w w' := by
  have hl2 : Hid (ys.length = m) := h2.hlen
  have hm3 := h2.hcap
  have hm4 := h2.hmost
  unfold maxLen at hm4
  obtain ⟨d0, d1, d2, d3, d4⟩ := hP.cells
  have pl := hP.lt
  obtain ⟨o1, ho1⟩ : ∃ o, Hid (M1.rOk r = o) := ⟨_, rfl⟩
  go_enter Tryz.func60, Tryz.ntmps60
  go_wp2_with fail
  refine (regionOk_impl r.id r.a r.b r.c _ _ _ _ _ hU).mono ?_
  rw [show M1.regOk r.id r.a r.b r.c r.us = o1 from ho1.out]
  rintro e w1 ⟨rfl, hb1⟩
  have S1 := S.below hb1
  have P1 : RgAt w1 p r.id r.a r.b r.c av n cn := hP.below hb1
  cases o1 with
  | false =>
    have HC : Hid (M1.rcC r ys now = ((1 : Nat) : Int)) := (M1.rc_1 ho1.out).1
    have c0 := S1.c0
    have g1 := S1.g
    go_wp2_with fail
    go_region
    go_wp2_with fail
    have hR := (rfs_new w1 s0 none).drew
    refine bodyPost_ret (v := .tuple #[.pointer none, .iface 126 (.pointer (some ⟨w1.heap.size, 0, none⟩))]) (by simp [results, Tryz.results60, go_sem]) rfl ?_
    exact ⟨.inl ⟨1, w1.heap.size, HC, by omega, by omega, rfl, hR⟩, (hb1.alloc hb1.size _).drew⟩
  | true =>
    clear d0 d1 d2 d3 d4
    by_cases hm : m ≤ 60
    · have dm : decide ((60 : Int) < (m : Int)) = false := decide_eq_false (by omega)
      have dm2 : decide (60 < m) = false := decide_eq_false (by omega)
      obtain ⟨o2, ho2⟩ : ∃ o, Hid (M1.inB now 0 1000000000 = o) := ⟨_, rfl⟩
      go_wp2_with fail
      refine (timeOk_any _ _).mono ?_
      rw [ho2.out]
      rintro e w2 ⟨rfl, rfl⟩
      cases o2 with
      | false =>
        have HC : Hid (M1.rcC r ys now = ((2 : Nat) : Int)) := (M1.rc_2 ho1.out (M1.rcF_2 ho2.out)).1
        have c1 := S1.c1
        have g1 := S1.g
        go_wp2_with fail
        refine (refuse_any ⟨p, 0, none⟩ s1 _).mono ?_
        rintro e wR ⟨rr, rfl, hR, hrr, hbR⟩
        go_wp2_with fail
        refine bodyPost_ret (v := .tuple #[.pointer none, .iface 126 (.pointer (some ⟨rr, 0, none⟩))]) (by simp [results, Tryz.results60, go_sem]) rfl ?_
        exact ⟨.inl ⟨2, rr, HC, by omega, by omega, rfl, hR⟩, hb1.trans (hbR.mono hb1.size)⟩
      | true =>
        obtain ⟨o3, ho3⟩ : ∃ o, Hid (M1.allR ys = o) := ⟨_, rfl⟩
        go_wp2_with fail
        refine (allRight_any _ _ _ _ _ (h2.below hb1)).mono ?_
        rw [ho3.out]
        rintro e w3 ⟨rfl, hb3⟩
        have B3 := hb1.trans (hb3.mono hb1.size)
        have S3 := S.below B3
        have P3 : RgAt w3 p r.id r.a r.b r.c av n cn := hP.below B3
        clear P1 S1
        cases o3 with
        | false =>
          have HC : Hid (M1.rcC r ys now = ((2 : Nat) : Int)) := (M1.rc_2 ho1.out (M1.rcF_3 ho3.out)).1
          have c1 := S3.c1
          have g1 := S3.g
          go_wp2_with fail
          refine (refuse_any ⟨p, 0, none⟩ s1 _).mono ?_
          rintro e wR ⟨rr, rfl, hR, hrr, hbR⟩
          go_wp2_with fail
          refine bodyPost_ret (v := .tuple #[.pointer none, .iface 126 (.pointer (some ⟨rr, 0, none⟩))]) (by simp [results, Tryz.results60, go_sem]) rfl ?_
          exact ⟨.inl ⟨2, rr, HC, by omega, by omega, rfl, hR⟩, B3.trans (hbR.mono B3.size)⟩
        | true =>
          have HF : Hid (M1.rcF ys now = false) := M1.rcF_0 (by rw [hl2.out]; exact hm) ho2.out ho3.out
          obtain ⟨d0, d1, d2, d3, d4⟩ := P3.cells
          have pl3 := P3.lt
          obtain ⟨o4, ho4⟩ : ∃ o, Hid (M1.tOk r.us ys = o) := ⟨_, rfl⟩
          go_wp2_with fail
          refine (taken_impl _ _ _ _ _ _ _ _ _ (hU.below B3) (h2.below B3)).mono ?_
          rw [ho4.out]
          obtain ⟨T, hT⟩ : ∃ T, Hid (M1.tL r.us ys = T) := ⟨_, rfl⟩
          rw [hT.out]
          rintro e w4 ⟨⟨v4, c4, rfl, mu4⟩, hb4⟩
          have B4 := B3.trans (hb4.mono B3.size)
          have S4 := S.below B4
          have P4 : RgAt w4 p r.id r.a r.b r.c av n cn := hP.below B4
          have hs3 := B3.size
          clear d0 d1 d2 d3 d4 pl3 P3 S3
          cases o4 with
          | false =>
            have HC : Hid (M1.rcC r ys now = ((3 : Nat) : Int)) := (M1.rc_3 ho1.out HF.out ho4.out).1
            have c4' := S4.c4
            have g1 := S4.g
            go_wp2_with fail
            refine (refuse_any ⟨p, 0, none⟩ s4 _).mono ?_
            rintro e wR ⟨rr, rfl, hR, hrr, hbR⟩
            go_wp2_with fail
            refine bodyPost_ret (v := .tuple #[.pointer none, .iface 126 (.pointer (some ⟨rr, 0, none⟩))]) (by simp [results, Tryz.results60, go_sem]) rfl ?_
            exact ⟨.inl ⟨3, rr, HC, by omega, by omega, rfl, hR⟩, B4.trans (hbR.mono B4.size)⟩
          | true =>
            obtain ⟨d0, d1, d2, d3, d4⟩ := P4.cells
            have pl4 := P4.lt
            obtain ⟨o5, ho5⟩ : ∃ o, Hid ((M1.mtTo r.a r.b r.c now ys m).ok = o) := ⟨_, rfl⟩
            go_wp2_with fail
            refine (metAll_any r.a r.b r.c now _ _ _ ys _ (h2.below B4)).mono ?_
            rw [ho5.out]
            rintro e w5 ⟨⟨x, y, z, rfl, hxyz⟩, hb5⟩
            have B5 := B4.trans (hb5.mono B4.size)
            have mu5 := mu4.below hb5
            have hs4 := hb4.size
            have hs5 := hb5.size
            clear d0 d1 d2 d3 d4 pl4 P4 S4 mu4
            have hA6 : Below w5.heap.size w5 (w5.alloc (.cells #[.int .i64 x, .int .i64 y, .int .i64 z] 25)) := (Below.refl _ _).alloc (Nat.le_refl _) _
            have y6 := st_new w5 x y z 25
            go_upto_region 9 with fail
            obtain ⟨W6, hW6⟩ : ∃ W, w5.alloc (.cells #[.int .i64 x, .int .i64 y, .int .i64 z] 25) = W := ⟨_, rfl⟩
            rw [hW6] at hA6 y6 ⊢
            clear hW6
            have B6 := B5.trans (hA6.mono B5.size)
            have mu6 := mu5.below hA6
            have S6 := S.below B6
            have P6 : RgAt W6 p r.id r.a r.b r.c av n cn := hP.below B6
            have hs6 := hA6.size
            obtain ⟨b, hb⟩ : ∃ b, Hid (w5.heap.size = b) := ⟨_, rfl⟩
            rw [hb.out] at y6 ⊢
            clear mu5 hA6
            cases o5 with
            | false =>
              have HC : Hid (M1.rcC r ys now = ((4 : Nat) : Int)) := (M1.rc_4 ho1.out HF.out ho4.out (by unfold M1.mt; rw [hl2.out]; exact ho5.out)).1
              have c3' := S6.c3
              have g1 := S6.g
              go_wp2_with fail
              refine (refuse_any ⟨p, 0, none⟩ s3 _).mono ?_
              rintro e wR ⟨rr, rfl, hR, hrr, hbR⟩
              go_wp2_with fail
              refine bodyPost_ret (v := .tuple #[.pointer none, .iface 126 (.pointer (some ⟨rr, 0, none⟩))]) (by simp [results, Tryz.results60, go_sem]) rfl ?_
              exact ⟨.inl ⟨4, rr, HC, by omega, by omega, rfl, hR⟩, B6.trans (hbR.mono B6.size)⟩
            | true =>
              obtain ⟨e1, e2, e3⟩ := hxyz rfl
              have HM : Hid ((M1.mt r ys now).a = x ∧ (M1.mt r ys now).b = y ∧ (M1.mt r ys now).c = z) := (by unfold M1.mt; rw [hl2.out]; exact ⟨e1.symm, e2.symm, e3.symm⟩ : _ ∧ _)
              have HC : Hid (M1.rcC r ys now = 0) := (M1.rc_0 ho1.out HF.out ho4.out (by unfold M1.mt; rw [hl2.out]; exact ho5.out)).1
              clear e1 e2 e3 hxyz
              obtain ⟨d0, d1, d2, d3, d4⟩ := P6.cells
              have pl6 := P6.lt
              obtain ⟨k0, k1, k2⟩ := y6.cells
              have yl := y6.lt
              go_wp2_with fail
              go_region
              go_wp2_with fail
              have hA7 : Below W6.heap.size W6 (W6.alloc (.cells #[.int .i64 r.id, .int .i64 x, .int .i64 y, .int .i64 z, .slice v4 T.length c4] 28)).drew := ((Below.refl _ _).alloc (Nat.le_refl _) _).drew
              have hq : RgAt (W6.alloc (.cells #[.int .i64 r.id, .int .i64 x, .int .i64 y, .int .i64 z, .slice v4 T.length c4] 28)).drew W6.heap.size r.id x y z v4 T.length c4 := (rg_new W6 r.id x y z v4 T.length c4 28).drew
              have mu7 := mu6.below hA7
              have B7 := B6.trans (hA7.mono B6.size)
              have hs7 := hA7.size
              have hwB := hb.out
              refine bodyPost_ret (v := .tuple #[.pointer (some ⟨W6.heap.size, 0, none⟩), .nilIface]) (by simp [results, Tryz.results60, go_sem]) rfl ?_
              refine ⟨.inr ⟨HC, W6.heap.size, v4, c4, by rfl, ?_, ?_⟩, B7⟩
              · rw [HM.out.1, HM.out.2.1, HM.out.2.2, hT.out]; exact hq
              · rw [hT.out]; exact ⟨mu7.1, mu7.2.1, mu7.2.2.imp (fun h => h) fun ⟨g, e, h1, h2, r⟩ => ⟨g, e, by omega, by omega, r⟩⟩
    · have HC : Hid (M1.rcC r ys now = ((2 : Nat) : Int)) := (M1.rc_2 ho1.out (M1.rcF_1 (by rw [hl2.out]; exact hm))).1
      have dm : decide ((60 : Int) < (m : Int)) = true := decide_eq_true (by omega)
      have dm2 : decide (60 < m) = true := decide_eq_true (by omega)
      have c1 := S1.c1
      have g1 := S1.g
      go_wp2_with fail
      refine (refuse_any ⟨p, 0, none⟩ s1 _).mono ?_
      rintro e wR ⟨rr, rfl, hR, hrr, hbR⟩
      go_wp2_with fail
      refine bodyPost_ret (v := .tuple #[.pointer none, .iface 126 (.pointer (some ⟨rr, 0, none⟩))]) (by simp [results, Tryz.results60, go_sem]) rfl ?_
      exact ⟨.inl ⟨2, rr, HC, by omega, by omega, rfl, hR⟩, hb1.trans (hbR.mono hb1.size)⟩

end Go.Proofs.YtccendmoeelniaaGreatDoor
