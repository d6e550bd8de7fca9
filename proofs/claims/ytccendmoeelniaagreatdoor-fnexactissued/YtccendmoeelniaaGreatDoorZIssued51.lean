/-
  For every region, op and time the law FnExactIssued answers true: Issued of the program answers as the model's does, writes into no argument, and its answer is memory of its own, behind another call too. The variables that the card lists are as the program's text lays them (the card's tie). (tools/mkexis.py)
-/
import Derived.Test.YtccendmoeelniaaGreatDoorZIssued38
import Derived.Test.YtccendmoeelniaaGreatDoorZIssued39
import Derived.Test.YtccendmoeelniaaGreatDoorZIssued48
import Derived.Test.YtccendmoeelniaaGreatDoorZIssued27
import Derived.Test.YtccendmoeelniaaGreatDoorZIssued07
import Derived.Test.YtccendmoeelniaaGreatDoorZIssued49
import Derived.Test.YtccendmoeelniaaGreatDoorZIssued50
import Derived.Test.YtccendmoeelniaaGreatDoorCards
import Derived.Test.YtccendmoeelniaaGreatDoorTie
import Derived.SevenTiedAt
import Derived.Stop.LaidErr
import Derived.LaidMore
import Derived.LaidHandle
import Derived.OpenVars
import Derived.ChangeSame
import Derived.ChangeVars
import Derived.JoinedOf
import Derived.Stop.Joined
import Derived.OpenShut
import Derived.ShutString
import Derived.ChangeOld
import Derived.Lib.SmallJoins
namespace Go.Proofs.YtccendmoeelniaaGreatDoor.exIssued
open Go.ChangeShapes Go.WideShapes Go.ChangeAt Go.RowKit
set_option linter.unusedVariables false
set_option linter.unusedSimpArgs false
theorem mk_row {w w' : World} {av : Option Addr} {n cap lo hi k m : Nat} {f f2 : Nat → Value} (h : MU w av n cap lo hi f) (mk : MkU av w w') (r : RowAt w k m f2) (hk : k < lo ∨ hi ≤ k) : RowAt w' k m f2 := by
  rcases h.2.2 with ⟨_, e⟩ | ⟨g, e, h1, h2, _⟩
  · exact r.below (mk.1 e)
  · exact r.gr (mk.2 g e) (by omega)

theorem mu_apart {w : World} {av : Option Addr} {n cap lo hi z : Nat} {f : Nat → Value} (h : MU w av n cap lo hi f) (hz : z < lo ∨ hi ≤ z) : ∀ q, av = some q → ¬ q.block = z := fun q hq => by
  rcases h.2.2 with ⟨_, e⟩ | ⟨g, e, h1, h2, _⟩
  · rw [e] at hq; cases hq
  · rw [e] at hq; cases hq; show ¬ g = z; omega

theorem mu_set5 {w : World} {av : Option Addr} {n cap lo hi z : Nat} {f : Nat → Value} (h : MU w av n cap lo hi f) (hz : ∀ q, av = some q → ¬ q.block = z) (v0 v1 v2 v3 v4 : Value) : MU (((((w.setCell ⟨z, 0, none⟩ (v0)).setCell ⟨z, 1, none⟩ (v1)).setCell ⟨z, 2, none⟩ (v2)).setCell ⟨z, 3, none⟩ (v3)).setCell ⟨z, 4, none⟩ (v4)) av n cap lo hi f :=
  mu_far (p := ⟨z, 4, none⟩) (mu_far (p := ⟨z, 3, none⟩) (mu_far (p := ⟨z, 2, none⟩) (mu_far (p := ⟨z, 1, none⟩) (mu_far (p := ⟨z, 0, none⟩) h hz v0) hz v1) hz v2) hz v3) hz v4

theorem mu_set13 {w : World} {av : Option Addr} {n cap lo hi z : Nat} {f : Nat → Value} (h : MU w av n cap lo hi f) (hz : z < lo ∨ hi ≤ z) (u : M1.Upd) : MU (((((((((((((w.setCell ⟨z, 0, none⟩ (.int .i64 u.dr)).setCell ⟨z, 1, none⟩ (.int .i64 u.dn)).setCell ⟨z, 2, none⟩ (.int .i64 u.sw)).setCell ⟨z, 3, none⟩ (.int .i64 u.sc)).setCell ⟨z, 4, none⟩ (.int .i64 u.sr)).setCell ⟨z, 5, none⟩ (.int .i64 u.k)).setCell ⟨z, 6, none⟩ (.int .i64 u.tr)).setCell ⟨z, 7, none⟩ (.int .i64 u.id)).setCell ⟨z, 8, none⟩ (.int .i64 u.pa)).setCell ⟨z, 9, none⟩ (.string u.s)).setCell ⟨z, 10, none⟩ (.int .i64 u.st)).setCell ⟨z, 11, none⟩ (.int .i64 u.en)).setCell ⟨z, 12, none⟩ (.int .i64 u.lv)) av n cap lo hi f :=
  ⟨h.1, h.2.1, h.2.2.imp (fun h => h) fun ⟨k, e, h3, h4, r⟩ => ⟨k, e, h3, h4, far13 r (by omega) u⟩⟩

set_option maxHeartbeats 40000000 in
set_option maxRecDepth 100000 in
theorem walk (id a b c : Int) (av : Option Addr) (n cn : Nat) (us : List M1.Upd) (ok ot oa ob : Int) (os : ByteArray) (oc oe now : Int) (w : World) (h1 : IsUpds w av n cn us) (ho : os.size ≤ maxLen) (hS : ∃ s0 s1 s2 s3 s4, Sens w s0 s1 s2 s3 s4) :
    Calls Tryz.prog 6 #[.agg #[.int .i64 id, .int .i64 a, .int .i64 b, .int .i64 c, .slice av n cn], .agg #[.int .i64 ok, .int .i64 ot, .int .i64 oa, .int .i64 ob, .string os, .int .i64 oc, .int .i64 oe], .int .i64 now] w fun e w' => e = .returned (.bool true) ∧ Below w.heap.size w w' := by
  obtain ⟨s0, s1, s2, s3, s4, S⟩ := hS
  have hm1 := h1.hcap
  have hm2 := h1.hmost
  have HL1 : Hid (us.length = n) := h1.hlen
  have HT1 : Hid (∀ i, i < n → (M1.up us i).s.size ≤ maxLen) := h1.htxt
  obtain ⟨t, HX⟩ : ∃ x, Hid (M1.isR ⟨id, a, b, c, us⟩ ⟨ok, ot, oa, ob, os, oc, oe⟩ now = x) := ⟨_, rfl⟩
  obtain ⟨u, HU⟩ : ∃ x, Hid (M1.isU ⟨id, a, b, c, us⟩ ⟨ok, ot, oa, ob, os, oc, oe⟩ now = x) := ⟨_, rfl⟩
  obtain ⟨kc, HK⟩ : ∃ k, Hid (M1.isC ⟨id, a, b, c, us⟩ ⟨ok, ot, oa, ob, os, oc, oe⟩ now = k) := ⟨_, rfl⟩
  have hxs : M1.setOk t.us = true := by rw [← HX.out]; exact M1.is_set _ _ _
  have HTX : Hid (∀ i, i < t.us.length → (M1.up t.us i).s.size ≤ maxLen) := set_short hxs
  have hx60 : t.us.length ≤ 60 := M1.setOk_len hxs
  obtain ⟨q, HQ⟩ : ∃ q, Hid (t.us.length = q) := ⟨_, rfl⟩
  rw [HQ.out] at HTX hx60
  have hkk : (kc != kc) = false := by simp
  have B0 : Below w.heap.size w w := Below.refl _ _
  obtain ⟨w0, hw0⟩ : ∃ v, v = w := ⟨_, rfl⟩
  rw [show Calls Tryz.prog 6 #[.agg #[.int .i64 id, .int .i64 a, .int .i64 b, .int .i64 c, .slice av n cn], .agg #[.int .i64 ok, .int .i64 ot, .int .i64 oa, .int .i64 ob, .string os, .int .i64 oc, .int .i64 oe], .int .i64 now] w = Calls Tryz.prog 6 #[.agg #[.int .i64 id, .int .i64 a, .int .i64 b, .int .i64 c, .slice av n cn], .agg #[.int .i64 ok, .int .i64 ot, .int .i64 oa, .int .i64 ob, .string os, .int .i64 oc, .int .i64 oe], .int .i64 now] w0 from by rw [hw0]]
  replace B0 : Below w.heap.size w w0 := by rw [hw0]; exact B0
  clear hw0
  have hs0 := B0.size
  go_enter Tryz.func6, Tryz.ntmps6
  have hb1 : Below w0.heap.size w0 ((w0.alloc (.cells #[.int .i64 id, .int .i64 a, .int .i64 b, .int .i64 c, .slice av n cn] 58)).alloc (.cells #[.int .i64 ok, .int .i64 ot, .int .i64 oa, .int .i64 ob, .string os, .int .i64 oc, .int .i64 oe] 61)) := ((Below.refl _ _).alloc (Nat.le_refl _) _).alloc (by simp) _
  have A1 : RgAt ((w0.alloc (.cells #[.int .i64 id, .int .i64 a, .int .i64 b, .int .i64 c, .slice av n cn] 58)).alloc (.cells #[.int .i64 ok, .int .i64 ot, .int .i64 oa, .int .i64 ob, .string os, .int .i64 oc, .int .i64 oe] 61)) w0.heap.size id a b c av n cn := (rg_new w0 id a b c av n cn 58).alloc _
  have E1 : OpAt ((w0.alloc (.cells #[.int .i64 id, .int .i64 a, .int .i64 b, .int .i64 c, .slice av n cn] 58)).alloc (.cells #[.int .i64 ok, .int .i64 ot, .int .i64 oa, .int .i64 ob, .string os, .int .i64 oc, .int .i64 oe] 61)) (w0.alloc (.cells #[.int .i64 id, .int .i64 a, .int .i64 b, .int .i64 c, .slice av n cn] 58)).heap.size ⟨ok, ot, oa, ob, os, oc, oe⟩ := op_new (w0.alloc (.cells #[.int .i64 id, .int .i64 a, .int .i64 b, .int .i64 c, .slice av n cn] 58)) ⟨ok, ot, oa, ob, os, oc, oe⟩ 61
  rw [show (w0.alloc (.cells #[.int .i64 id, .int .i64 a, .int .i64 b, .int .i64 c, .slice av n cn] 58)).heap.size = w0.heap.size + 1 by simp] at E1
  go_upto_region 1 with fail
  obtain ⟨w1, hw1⟩ : ∃ W, ((w0.alloc (.cells #[.int .i64 id, .int .i64 a, .int .i64 b, .int .i64 c, .slice av n cn] 58)).alloc (.cells #[.int .i64 ok, .int .i64 ot, .int .i64 oa, .int .i64 ob, .string os, .int .i64 oc, .int .i64 oe] 61)) = W := ⟨_, rfl⟩
  rw [hw1] at hb1 A1 E1 ⊢
  clear hw1
  have B1 := B0.trans (hb1.mono B0.size)
  have hs1 := hb1.size
  obtain ⟨gE, hgE⟩ : ∃ g, Hid (w0.heap.size + 1 = g) := ⟨_, rfl⟩
  obtain ⟨gA, hgA⟩ : ∃ g, Hid (w0.heap.size = g) := ⟨_, rfl⟩
  have hloA : w0.heap.size ≤ gA := by have := hgA.out; omega
  have hloE : w0.heap.size ≤ gE := by have := hgE.out; omega
  rw [hgE.out] at E1 ⊢
  rw [hgA.out] at A1 ⊢
  have hltA := A1.lt
  have hltE := E1.lt
  obtain ⟨d0, d1, d2, d3, d4⟩ := A1.cells
  have dl := A1.lt
  go_wp2_with fail
  refine (szRegion_any _ _ _ _ _ _ _ _ _ _ (h1.below B1) (by omega) (by omega)).mono ?_
  rintro e w2 ⟨⟨r, hn, hr0, hr1, rfl⟩ | rfl, hb2⟩
  · have hn' : n ≤ 1048576 := by omega
    have hr2 : ¬ r < 0 := by omega
    have B2 := B1.trans (hb2.mono B1.size)
    have hs2 := hb2.size
    clear d0 d1 d2 d3 d4 dl
    have A2 : RgAt w2 gA id a b c av n cn := A1.below hb2
    have E2 : OpAt w2 gE ⟨ok, ot, oa, ob, os, oc, oe⟩ := RowAt.below E1 hb2
    clear A1 E1
    obtain ⟨e0, e1, e2, e3, e4, e5, e6⟩ := OpAt.cells E2
    have el := E2.lt
    by_cases hso : (os.size : Int) ≤ r
    · have hso2 : ¬ r - os.size < 0 := by omega
      go_wp2_with fail
      refine (szOp_yes ok ot oa ob oc oe os r _ hr0 hr1 ho hso).mono ?_
      rintro e w3 ⟨rfl, hb3⟩
      have B3 := B2.trans (hb3.mono B2.size)
      have hs3 := hb3.size
      have A3 : RgAt w3 gA id a b c av n cn := A2.below hb3
      have E3 : OpAt w3 gE ⟨ok, ot, oa, ob, os, oc, oe⟩ := RowAt.below E2 hb3
      clear A2 E2
      clear e0 e1 e2 e3 e4 e5 e6 el
      go_upto_if 30 with fail
      go_cut [] (fun wc => wc = w3)
      case first =>
        go_wp2_with fail
        go_meet
        rfl
      case rest =>
        obtain rfl := hcut.symm
        go_upto_region 8 with fail
        obtain ⟨d0, d1, d2, d3, d4⟩ := A3.cells
        have dl := A3.lt
        obtain ⟨e0, e1, e2, e3, e4, e5, e6⟩ := OpAt.cells E3
        have el := E3.lt
        go_cut [8, 9, 10] (fun v1 v2 v3 wc => ∃ (gW gVW loW hiW : Nat) (aW : Option Addr) (cW : Nat), v1 = .pointer (some ⟨gW, 0, none⟩) ∧ v2 = .pointer (some ⟨gVW, 0, none⟩) ∧ v3 = .int .i64 kc ∧ w3.heap.size ≤ loW ∧ loW ≤ hiW ∧ hiW ≤ wc.heap.size ∧ w3.heap.size ≤ gW ∧ w3.heap.size ≤ gVW ∧ (gW < loW ∨ hiW ≤ gW) ∧ (gVW < loW ∨ hiW ≤ gVW) ∧ ¬ gW = gVW ∧ RgAt wc gW t.id t.a t.b t.c aW q cW ∧ RowAt wc gVW 13 (uq u) ∧ MU wc aW q cW loW hiW (ucell t.us) ∧ Below w3.heap.size w3 wc)
        case first =>
          refine wp_region_held_drew (S := fun w' => Kp w3 w') (by kernel_rfl) ?_ (fun hHeld => ?_)
          · exact kp_zero _
          refine have_state 3 #[true, true, true, true, true, true, true, true, true, true, true, true, false, false, false] (fun act w1 => ∃ (gT : Nat) (aW : Option Addr) (cW : Nat) (lo : Nat) (hi : Nat) (qA : Nat) (qB : Nat), act = (⟨#[.agg #[.int .i64 id, .int .i64 a, .int .i64 b, .int .i64 c, .slice av n cn], .agg #[.int .i64 ok, .int .i64 ot, .int .i64 oa, .int .i64 ob, .string os, .int .i64 oc, .int .i64 oe], .int .i64 now, .pointer (some ⟨gA, 0, none⟩), .pointer (some ⟨gE, 0, none⟩), undef, u6, .int .i64 (r - (os.size : Int)), .pointer (some ⟨qA, 0, none⟩), .pointer (some ⟨qB, 0, none⟩), undef, undef, undef, undef, undef, undef, undef, undef, undef, undef, undef, u21, u22, u23, u24, u25, u26, u27, u28, u29, u30, .tuple #[.agg #[.int .i64 t.id, .int .i64 t.a, .int .i64 t.b, .int .i64 t.c, .slice aW q cW], .agg #[.int .i64 u.dr, .int .i64 u.dn, .int .i64 u.sw, .int .i64 u.sc, .int .i64 u.sr, .int .i64 u.k, .int .i64 u.tr, .int .i64 u.id, .int .i64 u.pa, .string u.s, .int .i64 u.st, .int .i64 u.en, .int .i64 u.lv], .int .i64 kc], .agg #[.int .i64 id, .int .i64 a, .int .i64 b, .int .i64 c, .slice av n cn], .agg #[.int .i64 id, .int .i64 a, .int .i64 b, .int .i64 c, .slice (some ⟨gT, 0, none⟩) n n], .agg #[.int .i64 ok, .int .i64 ot, .int .i64 oa, .int .i64 ob, .string os, .int .i64 oc, .int .i64 oe], .agg #[.int .i64 ok, .int .i64 ot, .int .i64 oa, .int .i64 ob, .string os, .int .i64 oc, .int .i64 oe], .int .i64 now, .tuple #[.agg #[.int .i64 t.id, .int .i64 t.a, .int .i64 t.b, .int .i64 t.c, .slice aW q cW], .agg #[.int .i64 u.dr, .int .i64 u.dn, .int .i64 u.sw, .int .i64 u.sc, .int .i64 u.sr, .int .i64 u.k, .int .i64 u.tr, .int .i64 u.id, .int .i64 u.pa, .string u.s, .int .i64 u.st, .int .i64 u.en, .int .i64 u.lv], .int .i64 kc], .agg #[.int .i64 t.id, .int .i64 t.a, .int .i64 t.b, .int .i64 t.c, .slice aW q cW], .agg #[.int .i64 u.dr, .int .i64 u.dn, .int .i64 u.sw, .int .i64 u.sc, .int .i64 u.sr, .int .i64 u.k, .int .i64 u.tr, .int .i64 u.id, .int .i64 u.pa, .string u.s, .int .i64 u.st, .int .i64 u.en, .int .i64 u.lv], .int .i64 kc, u41, u42, u43, u44, u45, u46, u47, u48, u49, u50, u51, u52, u53, u54, u55, u56, u57, u58, u59, u60, u61, u62, u63, u64, u65, u66, u67, u68, u69, u70, u71, u72, u73, u74, u75, u76, u77, u78, u79, u80, u81, u82, u83, u84, u85, u86, u87, u88, u89, u90, u91, u92, u93, u94, u95, u96, u97, u98, u99, u100, u101, u102, u103, u104, u105, u106, u107, u108, u109, u110, u111, u112, u113, u114, u115, u116, u117, u118, u119, u120, u121, u122, u123, u124, u125, u126, u127, u128, u129, u130, u131, u132, u133, u134, u135, u136, u137], []⟩ : Act) ∧ MU w1 aW q cW lo hi (ucell t.us) ∧ w3.heap.size ≤ lo ∧ lo ≤ hi ∧ hi ≤ w1.heap.size ∧ RgAt w1 qA 0 0 0 0 none 0 0 ∧ w3.heap.size ≤ qA ∧ (qA < lo ∨ hi ≤ qA) ∧ RowAt w1 qB 13 (uq M1.zeroU) ∧ w3.heap.size ≤ qB ∧ (qB < lo ∨ hi ≤ qB) ∧ ¬ qA = qB) ?_ (fun st311 => ?_)
          · rintro act w1 ⟨gT, aW, cW, lo, hi, qA, qB, rfl, m1, m2, m3, m4, p1, p2, p3, r1, r2, r3, pr⟩ hS
            refine wpAnyH_ready (rs := [12]) (by kernel_rfl) (by simp) ?_
            refine (AllReadyH.cons (o := _) rfl (fun K hK => ?_) AllReadyH.nil)
            · obtain ⟨a0, a1, a2, a3, a4⟩ := p1.cells
              obtain ⟨b0, b1, b2, b3, b4⟩ := p1.frees
              have zl9 := p1.lt
              go_simp
              refine hK.out _ _ (kp_of (bel_put5 hS.1 p2 _ _ _ _ _)) (fun hS2 => ?_)
              clear hK
              (try simp only [Act.put, aZ, bZ, cZ, dZ, eZ, fZ])
              have z4 : RgAt (((((w1.setCell ⟨qA, 0, none⟩ (.int .i64 t.id)).setCell ⟨qA, 1, none⟩ (.int .i64 t.a)).setCell ⟨qA, 2, none⟩ (.int .i64 t.b)).setCell ⟨qA, 3, none⟩ (.int .i64 t.c)).setCell ⟨qA, 4, none⟩ (.slice aW q cW)) qA t.id t.a t.b t.c aW q cW := p1.put t.id t.a t.b t.c aW q cW
              have y4 : RowAt (((((w1.setCell ⟨qA, 0, none⟩ (.int .i64 t.id)).setCell ⟨qA, 1, none⟩ (.int .i64 t.a)).setCell ⟨qA, 2, none⟩ (.int .i64 t.b)).setCell ⟨qA, 3, none⟩ (.int .i64 t.c)).setCell ⟨qA, 4, none⟩ (.slice aW q cW)) qB 13 (uq M1.zeroU) := far5 r1 pr _ _ _ _ _
              have B4 : Below w3.heap.size w3 (((((w1.setCell ⟨qA, 0, none⟩ (.int .i64 t.id)).setCell ⟨qA, 1, none⟩ (.int .i64 t.a)).setCell ⟨qA, 2, none⟩ (.int .i64 t.b)).setCell ⟨qA, 3, none⟩ (.int .i64 t.c)).setCell ⟨qA, 4, none⟩ (.slice aW q cW)) := bel_put5 hS.1 p2 _ _ _ _ _
              have m5 : MU (((((w1.setCell ⟨qA, 0, none⟩ (.int .i64 t.id)).setCell ⟨qA, 1, none⟩ (.int .i64 t.a)).setCell ⟨qA, 2, none⟩ (.int .i64 t.b)).setCell ⟨qA, 3, none⟩ (.int .i64 t.c)).setCell ⟨qA, 4, none⟩ (.slice aW q cW)) aW q cW lo hi (ucell t.us) := mu_set5 m1 (mu_apart m1 p3) _ _ _ _ _
              have s5 : w1.heap.size ≤ (((((w1.setCell ⟨qA, 0, none⟩ (.int .i64 t.id)).setCell ⟨qA, 1, none⟩ (.int .i64 t.a)).setCell ⟨qA, 2, none⟩ (.int .i64 t.b)).setCell ⟨qA, 3, none⟩ (.int .i64 t.c)).setCell ⟨qA, 4, none⟩ (.slice aW q cW)).heap.size := (bel_put5 (Below.refl 0 w1) (Nat.zero_le qA) _ _ _ _ _).size
              clear a0 a1 a2 a3 a4 b0 b1 b2 b3 b4
              obtain ⟨w2, hw2⟩ : ∃ W, (((((w1.setCell ⟨qA, 0, none⟩ (.int .i64 t.id)).setCell ⟨qA, 1, none⟩ (.int .i64 t.a)).setCell ⟨qA, 2, none⟩ (.int .i64 t.b)).setCell ⟨qA, 3, none⟩ (.int .i64 t.c)).setCell ⟨qA, 4, none⟩ (.slice aW q cW)) = W := ⟨_, rfl⟩
              rw [hw2] at hS2 z4 y4 B4 m5 s5 ⊢
              clear hw2
              obtain ⟨ca0, ca1, ca2, ca3, ca4, ca5, ca6, ca7, ca8, ca9, ca10, ca11, ca12⟩ := uq_cells y4
              obtain ⟨fa0, fa1, fa2, fa3, fa4, fa5, fa6, fa7, fa8, fa9, fa10, fa11, fa12⟩ := uq_free y4
              have yl9 := y4.lt
              have hHeld := hS2
              refine wpAnyH_ready (rs := [13]) (by kernel_rfl) (by simp) ?_
              refine AllReadyH.cons (o := _) rfl (fun K hK => ?_) AllReadyH.nil
              go_simp
              skip
              refine hK.out _ _ ?_ (fun hHeld2 => ?_)
              · exact kp_of (bel_put B4 r2 u)
              clear hK K hHeld
              have hHeld := hHeld2
              clear hHeld2
              (try simp only [Act.put, aZ, bZ, cZ, dZ, eZ, fZ])
              refine wpAnyH_take (i := 14) (v := ?_) rfl (by kernel_rfl) (by kernel_rfl) (by kernel_rfl) (fun _ _ _ h => h) (Or.inl ⟨by rfl, ?_⟩) hHeld ?_
              rotate_left
              · (intro w hSw; (try dsimp only at hSw); go_simp; try (with_reducible rfl))
              (try simp only [Act.put, aZ, bZ, cZ, dZ, eZ, fZ])
              refine wpAnyH_done (by kernel_rfl) ?_ _
              have zz : RowAt (((((((((((((w2.setCell ⟨qB, 0, none⟩ (.int .i64 u.dr)).setCell ⟨qB, 1, none⟩ (.int .i64 u.dn)).setCell ⟨qB, 2, none⟩ (.int .i64 u.sw)).setCell ⟨qB, 3, none⟩ (.int .i64 u.sc)).setCell ⟨qB, 4, none⟩ (.int .i64 u.sr)).setCell ⟨qB, 5, none⟩ (.int .i64 u.k)).setCell ⟨qB, 6, none⟩ (.int .i64 u.tr)).setCell ⟨qB, 7, none⟩ (.int .i64 u.id)).setCell ⟨qB, 8, none⟩ (.int .i64 u.pa)).setCell ⟨qB, 9, none⟩ (.string u.s)).setCell ⟨qB, 10, none⟩ (.int .i64 u.st)).setCell ⟨qB, 11, none⟩ (.int .i64 u.en)).setCell ⟨qB, 12, none⟩ (.int .i64 u.lv)) qB 13 (uq u) := uq_put y4 u
              have zr : RgAt (((((((((((((w2.setCell ⟨qB, 0, none⟩ (.int .i64 u.dr)).setCell ⟨qB, 1, none⟩ (.int .i64 u.dn)).setCell ⟨qB, 2, none⟩ (.int .i64 u.sw)).setCell ⟨qB, 3, none⟩ (.int .i64 u.sc)).setCell ⟨qB, 4, none⟩ (.int .i64 u.sr)).setCell ⟨qB, 5, none⟩ (.int .i64 u.k)).setCell ⟨qB, 6, none⟩ (.int .i64 u.tr)).setCell ⟨qB, 7, none⟩ (.int .i64 u.id)).setCell ⟨qB, 8, none⟩ (.int .i64 u.pa)).setCell ⟨qB, 9, none⟩ (.string u.s)).setCell ⟨qB, 10, none⟩ (.int .i64 u.st)).setCell ⟨qB, 11, none⟩ (.int .i64 u.en)).setCell ⟨qB, 12, none⟩ (.int .i64 u.lv)) qA t.id t.a t.b t.c aW q cW := far13 z4 (fun e => pr e.symm) u
              have BB : Below w3.heap.size w3 (((((((((((((w2.setCell ⟨qB, 0, none⟩ (.int .i64 u.dr)).setCell ⟨qB, 1, none⟩ (.int .i64 u.dn)).setCell ⟨qB, 2, none⟩ (.int .i64 u.sw)).setCell ⟨qB, 3, none⟩ (.int .i64 u.sc)).setCell ⟨qB, 4, none⟩ (.int .i64 u.sr)).setCell ⟨qB, 5, none⟩ (.int .i64 u.k)).setCell ⟨qB, 6, none⟩ (.int .i64 u.tr)).setCell ⟨qB, 7, none⟩ (.int .i64 u.id)).setCell ⟨qB, 8, none⟩ (.int .i64 u.pa)).setCell ⟨qB, 9, none⟩ (.string u.s)).setCell ⟨qB, 10, none⟩ (.int .i64 u.st)).setCell ⟨qB, 11, none⟩ (.int .i64 u.en)).setCell ⟨qB, 12, none⟩ (.int .i64 u.lv)) := bel_put B4 r2 u
              have hm : MU (((((((((((((w2.setCell ⟨qB, 0, none⟩ (.int .i64 u.dr)).setCell ⟨qB, 1, none⟩ (.int .i64 u.dn)).setCell ⟨qB, 2, none⟩ (.int .i64 u.sw)).setCell ⟨qB, 3, none⟩ (.int .i64 u.sc)).setCell ⟨qB, 4, none⟩ (.int .i64 u.sr)).setCell ⟨qB, 5, none⟩ (.int .i64 u.k)).setCell ⟨qB, 6, none⟩ (.int .i64 u.tr)).setCell ⟨qB, 7, none⟩ (.int .i64 u.id)).setCell ⟨qB, 8, none⟩ (.int .i64 u.pa)).setCell ⟨qB, 9, none⟩ (.string u.s)).setCell ⟨qB, 10, none⟩ (.int .i64 u.st)).setCell ⟨qB, 11, none⟩ (.int .i64 u.en)).setCell ⟨qB, 12, none⟩ (.int .i64 u.lv)) aW q cW lo hi (ucell t.us) := mu_set13 m5 r3 u
              have s6 : w2.heap.size ≤ (((((((((((((w2.setCell ⟨qB, 0, none⟩ (.int .i64 u.dr)).setCell ⟨qB, 1, none⟩ (.int .i64 u.dn)).setCell ⟨qB, 2, none⟩ (.int .i64 u.sw)).setCell ⟨qB, 3, none⟩ (.int .i64 u.sc)).setCell ⟨qB, 4, none⟩ (.int .i64 u.sr)).setCell ⟨qB, 5, none⟩ (.int .i64 u.k)).setCell ⟨qB, 6, none⟩ (.int .i64 u.tr)).setCell ⟨qB, 7, none⟩ (.int .i64 u.id)).setCell ⟨qB, 8, none⟩ (.int .i64 u.pa)).setCell ⟨qB, 9, none⟩ (.string u.s)).setCell ⟨qB, 10, none⟩ (.int .i64 u.st)).setCell ⟨qB, 11, none⟩ (.int .i64 u.en)).setCell ⟨qB, 12, none⟩ (.int .i64 u.lv)).heap.size := sz13 w2 qB u
              clear hHeld ca0 ca1 ca2 ca3 ca4 ca5 ca6 ca7 ca8 ca9 ca10 ca11 ca12 fa0 fa1 fa2 fa3 fa4 fa5 fa6 fa7 fa8 fa9 fa10 fa11 fa12
              go_wp2_with fail
              go_meet
              exact ⟨qA, qB, lo, hi, aW, cW, rfl, rfl, rfl, m2, m3, by omega, p2, r2, p3, r3, pr, zr, zz, hm, BB⟩
          refine have_state 8 #[true, true, true, true, true, false, false, false, false, false, true, true, false, false, false] (fun act w1 => ∃ (gT : Nat) (qA : Nat) (qB : Nat), act = (⟨#[.agg #[.int .i64 id, .int .i64 a, .int .i64 b, .int .i64 c, .slice av n cn], .agg #[.int .i64 ok, .int .i64 ot, .int .i64 oa, .int .i64 ob, .string os, .int .i64 oc, .int .i64 oe], .int .i64 now, .pointer (some ⟨gA, 0, none⟩), .pointer (some ⟨gE, 0, none⟩), undef, u6, .int .i64 (r - (os.size : Int)), .pointer (some ⟨qA, 0, none⟩), .pointer (some ⟨qB, 0, none⟩), undef, undef, undef, undef, undef, undef, undef, undef, undef, undef, undef, u21, u22, u23, u24, u25, u26, u27, u28, u29, u30, u31, .agg #[.int .i64 id, .int .i64 a, .int .i64 b, .int .i64 c, .slice av n cn], .agg #[.int .i64 id, .int .i64 a, .int .i64 b, .int .i64 c, .slice (some ⟨gT, 0, none⟩) n n], .agg #[.int .i64 ok, .int .i64 ot, .int .i64 oa, .int .i64 ob, .string os, .int .i64 oc, .int .i64 oe], .agg #[.int .i64 ok, .int .i64 ot, .int .i64 oa, .int .i64 ob, .string os, .int .i64 oc, .int .i64 oe], .int .i64 now, u37, u38, u39, u40, u41, u42, u43, u44, u45, u46, u47, u48, u49, u50, u51, u52, u53, u54, u55, u56, u57, u58, u59, u60, u61, u62, u63, u64, u65, u66, u67, u68, u69, u70, u71, u72, u73, u74, u75, u76, u77, u78, u79, u80, u81, u82, u83, u84, u85, u86, u87, u88, u89, u90, u91, u92, u93, u94, u95, u96, u97, u98, u99, u100, u101, u102, u103, u104, u105, u106, u107, u108, u109, u110, u111, u112, u113, u114, u115, u116, u117, u118, u119, u120, u121, u122, u123, u124, u125, u126, u127, u128, u129, u130, u131, u132, u133, u134, u135, u136, u137], []⟩ : Act) ∧ RowAt w1 gT (n * 13) (ucell us) ∧ RgAt w1 qA 0 0 0 0 none 0 0 ∧ w3.heap.size ≤ qA ∧ RowAt w1 qB 13 (uq M1.zeroU) ∧ w3.heap.size ≤ qB ∧ ¬ qA = qB) ?_ (fun st211 => ?_)
          · rintro act w1 ⟨gT, qA, qB, rfl, T1, p1, p2, r1, r2, pr⟩ hS
            refine wpAnyH_ready (rs := [5]) (by kernel_rfl) (by simp) ?_
            refine (AllReadyH.cons (o := _) rfl (fun K hK => ?_) AllReadyH.nil)
            · go_simp
              have js := issued_spec ⟨id, a, b, c, us⟩ ⟨ok, ot, oa, ob, os, oc, oe⟩ now _ _ _ _ (isUpds_of_row HL1.out (Nat.le_refl _) (by unfold maxLen; omega) HT1.out T1) ho
              unfold IsS RgD at js
              rw [HX.out, HU.out, HK.out, HQ.out] at js
              refine js.mono ?_
              clear js
              rintro e w2 ⟨⟨_, rfl, aW, cW, rfl, m1⟩, hb2⟩
              go_wp2_with fail
              refine hK.out _ _ (kp_step hS hb2) (fun hS2 => ?_)
              clear hK
              (try simp only [Act.put, aZ, bZ, cZ, dZ, eZ, fZ])
              refine wpAnyH_take (i := 6) (v := ?_) rfl (by kernel_rfl) (by kernel_rfl) (by kernel_rfl) (fun _ _ _ h => h) (Or.inl ⟨by rfl, ?_⟩) hS2 ?_
              rotate_left
              · (intro w hSw; (try dsimp only at hSw); go_simp; try (with_reducible rfl))
              (try simp only [Act.put, aZ, bZ, cZ, dZ, eZ, fZ])
              refine wpAnyH_take (i := 7) (v := ?_) rfl (by kernel_rfl) (by kernel_rfl) (by kernel_rfl) (fun _ _ _ h => h) (Or.inl ⟨by rfl, ?_⟩) hS2 ?_
              rotate_left
              · (intro w hSw; (try dsimp only at hSw); go_simp; try (with_reducible rfl))
              (try simp only [Act.put, aZ, bZ, cZ, dZ, eZ, fZ])
              refine wpAnyH_take (i := 8) (v := ?_) rfl (by kernel_rfl) (by kernel_rfl) (by kernel_rfl) (fun _ _ _ h => h) (Or.inl ⟨by rfl, ?_⟩) hS2 ?_
              rotate_left
              · (intro w hSw; (try dsimp only at hSw); go_simp; try (with_reducible rfl))
              (try simp only [Act.put, aZ, bZ, cZ, dZ, eZ, fZ])
              refine wpAnyH_take (i := 9) (v := ?_) rfl (by kernel_rfl) (by kernel_rfl) (by kernel_rfl) (fun _ _ _ h => h) (Or.inl ⟨by rfl, ?_⟩) hS2 ?_
              rotate_left
              · (intro w hSw; (try dsimp only at hSw); go_simp; try (with_reducible rfl))
              (try simp only [Act.put, aZ, bZ, cZ, dZ, eZ, fZ])
              exact st311.out _ _ ⟨gT, aW, cW, w1.heap.size, w2.heap.size, qA, qB, rfl, m1, hS.1.size, hb2.size, (Nat.le_refl _), (RowAt.below p1 hb2), p2, (.inl p1.lt), (RowAt.below r1 hb2), r2, (.inl r1.lt), pr⟩ hS2
          refine have_state 4 #[true, true, true, true, true, true, true, true, true, true, false, true, false, false, false] (fun act w1 => ∃ (gT : Nat) (aW : Option Addr) (cW : Nat) (lo : Nat) (hi : Nat) (qB : Nat), act = (⟨#[.agg #[.int .i64 id, .int .i64 a, .int .i64 b, .int .i64 c, .slice av n cn], .agg #[.int .i64 ok, .int .i64 ot, .int .i64 oa, .int .i64 ob, .string os, .int .i64 oc, .int .i64 oe], .int .i64 now, .pointer (some ⟨gA, 0, none⟩), .pointer (some ⟨gE, 0, none⟩), undef, u6, .int .i64 (r - (os.size : Int)), undef, .pointer (some ⟨qB, 0, none⟩), undef, undef, undef, undef, undef, undef, undef, undef, undef, undef, undef, u21, u22, u23, u24, u25, u26, u27, u28, u29, u30, .tuple #[.agg #[.int .i64 t.id, .int .i64 t.a, .int .i64 t.b, .int .i64 t.c, .slice aW q cW], .agg #[.int .i64 u.dr, .int .i64 u.dn, .int .i64 u.sw, .int .i64 u.sc, .int .i64 u.sr, .int .i64 u.k, .int .i64 u.tr, .int .i64 u.id, .int .i64 u.pa, .string u.s, .int .i64 u.st, .int .i64 u.en, .int .i64 u.lv], .int .i64 kc], .agg #[.int .i64 id, .int .i64 a, .int .i64 b, .int .i64 c, .slice av n cn], .agg #[.int .i64 id, .int .i64 a, .int .i64 b, .int .i64 c, .slice (some ⟨gT, 0, none⟩) n n], .agg #[.int .i64 ok, .int .i64 ot, .int .i64 oa, .int .i64 ob, .string os, .int .i64 oc, .int .i64 oe], .agg #[.int .i64 ok, .int .i64 ot, .int .i64 oa, .int .i64 ob, .string os, .int .i64 oc, .int .i64 oe], .int .i64 now, .tuple #[.agg #[.int .i64 t.id, .int .i64 t.a, .int .i64 t.b, .int .i64 t.c, .slice aW q cW], .agg #[.int .i64 u.dr, .int .i64 u.dn, .int .i64 u.sw, .int .i64 u.sc, .int .i64 u.sr, .int .i64 u.k, .int .i64 u.tr, .int .i64 u.id, .int .i64 u.pa, .string u.s, .int .i64 u.st, .int .i64 u.en, .int .i64 u.lv], .int .i64 kc], .agg #[.int .i64 t.id, .int .i64 t.a, .int .i64 t.b, .int .i64 t.c, .slice aW q cW], .agg #[.int .i64 u.dr, .int .i64 u.dn, .int .i64 u.sw, .int .i64 u.sc, .int .i64 u.sr, .int .i64 u.k, .int .i64 u.tr, .int .i64 u.id, .int .i64 u.pa, .string u.s, .int .i64 u.st, .int .i64 u.en, .int .i64 u.lv], .int .i64 kc, u41, u42, u43, u44, u45, u46, u47, u48, u49, u50, u51, u52, u53, u54, u55, u56, u57, u58, u59, u60, u61, u62, u63, u64, u65, u66, u67, u68, u69, u70, u71, u72, u73, u74, u75, u76, u77, u78, u79, u80, u81, u82, u83, u84, u85, u86, u87, u88, u89, u90, u91, u92, u93, u94, u95, u96, u97, u98, u99, u100, u101, u102, u103, u104, u105, u106, u107, u108, u109, u110, u111, u112, u113, u114, u115, u116, u117, u118, u119, u120, u121, u122, u123, u124, u125, u126, u127, u128, u129, u130, u131, u132, u133, u134, u135, u136, u137], []⟩ : Act) ∧ MU w1 aW q cW lo hi (ucell t.us) ∧ w3.heap.size ≤ lo ∧ lo ≤ hi ∧ hi ≤ w1.heap.size ∧ RowAt w1 qB 13 (uq M1.zeroU) ∧ w3.heap.size ≤ qB ∧ (qB < lo ∨ hi ≤ qB)) ?_ (fun st301 => ?_)
          · rintro act w1 ⟨gT, aW, cW, lo, hi, qB, rfl, m1, m2, m3, m4, r1, r2, r3⟩ hS
            refine wpAnyH_ready (rs := [10]) (by kernel_rfl) (by simp) ?_
            refine (AllReadyH.cons (o := _) rfl (fun K hK => ?_) AllReadyH.nil)
            · go_simp
              have hb2 : Below w1.heap.size w1 (w1.alloc (.cells #[.int .i64 0, .int .i64 0, .int .i64 0, .int .i64 0, .slice none 0 0] 28)) := (Below.refl _ _).alloc (Nat.le_refl _) _
              have n1 : RgAt (w1.alloc (.cells #[.int .i64 0, .int .i64 0, .int .i64 0, .int .i64 0, .slice none 0 0] 28)) w1.heap.size 0 0 0 0 none 0 0 := rg_new w1 0 0 0 0 none 0 0 28
              refine hK.out _ _ (kp_alloc hS _) (fun hS2 => ?_)
              clear hK
              (try simp only [Act.put, aZ, bZ, cZ, dZ, eZ, fZ])
              exact st311.out _ _ ⟨gT, aW, cW, lo, hi, w1.heap.size, qB, rfl, (m1.below hb2), m2, m3, (Nat.le_trans m4 hb2.size), n1, hS.1.size, (.inr m4), (RowAt.below r1 hb2), r2, r3, (by have := r1.lt; omega)⟩ hS2
          refine have_state 4 #[true, true, true, true, true, true, true, true, true, true, true, false, false, false, false] (fun act w1 => ∃ (gT : Nat) (aW : Option Addr) (cW : Nat) (lo : Nat) (hi : Nat) (qA : Nat), act = (⟨#[.agg #[.int .i64 id, .int .i64 a, .int .i64 b, .int .i64 c, .slice av n cn], .agg #[.int .i64 ok, .int .i64 ot, .int .i64 oa, .int .i64 ob, .string os, .int .i64 oc, .int .i64 oe], .int .i64 now, .pointer (some ⟨gA, 0, none⟩), .pointer (some ⟨gE, 0, none⟩), undef, u6, .int .i64 (r - (os.size : Int)), .pointer (some ⟨qA, 0, none⟩), undef, undef, undef, undef, undef, undef, undef, undef, undef, undef, undef, undef, u21, u22, u23, u24, u25, u26, u27, u28, u29, u30, .tuple #[.agg #[.int .i64 t.id, .int .i64 t.a, .int .i64 t.b, .int .i64 t.c, .slice aW q cW], .agg #[.int .i64 u.dr, .int .i64 u.dn, .int .i64 u.sw, .int .i64 u.sc, .int .i64 u.sr, .int .i64 u.k, .int .i64 u.tr, .int .i64 u.id, .int .i64 u.pa, .string u.s, .int .i64 u.st, .int .i64 u.en, .int .i64 u.lv], .int .i64 kc], .agg #[.int .i64 id, .int .i64 a, .int .i64 b, .int .i64 c, .slice av n cn], .agg #[.int .i64 id, .int .i64 a, .int .i64 b, .int .i64 c, .slice (some ⟨gT, 0, none⟩) n n], .agg #[.int .i64 ok, .int .i64 ot, .int .i64 oa, .int .i64 ob, .string os, .int .i64 oc, .int .i64 oe], .agg #[.int .i64 ok, .int .i64 ot, .int .i64 oa, .int .i64 ob, .string os, .int .i64 oc, .int .i64 oe], .int .i64 now, .tuple #[.agg #[.int .i64 t.id, .int .i64 t.a, .int .i64 t.b, .int .i64 t.c, .slice aW q cW], .agg #[.int .i64 u.dr, .int .i64 u.dn, .int .i64 u.sw, .int .i64 u.sc, .int .i64 u.sr, .int .i64 u.k, .int .i64 u.tr, .int .i64 u.id, .int .i64 u.pa, .string u.s, .int .i64 u.st, .int .i64 u.en, .int .i64 u.lv], .int .i64 kc], .agg #[.int .i64 t.id, .int .i64 t.a, .int .i64 t.b, .int .i64 t.c, .slice aW q cW], .agg #[.int .i64 u.dr, .int .i64 u.dn, .int .i64 u.sw, .int .i64 u.sc, .int .i64 u.sr, .int .i64 u.k, .int .i64 u.tr, .int .i64 u.id, .int .i64 u.pa, .string u.s, .int .i64 u.st, .int .i64 u.en, .int .i64 u.lv], .int .i64 kc, u41, u42, u43, u44, u45, u46, u47, u48, u49, u50, u51, u52, u53, u54, u55, u56, u57, u58, u59, u60, u61, u62, u63, u64, u65, u66, u67, u68, u69, u70, u71, u72, u73, u74, u75, u76, u77, u78, u79, u80, u81, u82, u83, u84, u85, u86, u87, u88, u89, u90, u91, u92, u93, u94, u95, u96, u97, u98, u99, u100, u101, u102, u103, u104, u105, u106, u107, u108, u109, u110, u111, u112, u113, u114, u115, u116, u117, u118, u119, u120, u121, u122, u123, u124, u125, u126, u127, u128, u129, u130, u131, u132, u133, u134, u135, u136, u137], []⟩ : Act) ∧ MU w1 aW q cW lo hi (ucell t.us) ∧ w3.heap.size ≤ lo ∧ lo ≤ hi ∧ hi ≤ w1.heap.size ∧ RgAt w1 qA 0 0 0 0 none 0 0 ∧ w3.heap.size ≤ qA ∧ (qA < lo ∨ hi ≤ qA)) ?_ (fun st310 => ?_)
          · rintro act w1 ⟨gT, aW, cW, lo, hi, qA, rfl, m1, m2, m3, m4, p1, p2, p3⟩ hS
            refine wpAnyH_ready (rs := [11]) (by kernel_rfl) (by simp) ?_
            refine (AllReadyH.cons (o := _) rfl (fun K hK => ?_) AllReadyH.nil)
            · go_simp
              have hb2 : Below w1.heap.size w1 (w1.alloc (.cells #[.int .i64 0, .int .i64 0, .int .i64 0, .int .i64 0, .int .i64 0, .int .i64 0, .int .i64 0, .int .i64 0, .int .i64 0, .string ⟨#[]⟩, .int .i64 0, .int .i64 0, .int .i64 0] 38)) := (Below.refl _ _).alloc (Nat.le_refl _) _
              have n1 : RowAt (w1.alloc (.cells #[.int .i64 0, .int .i64 0, .int .i64 0, .int .i64 0, .int .i64 0, .int .i64 0, .int .i64 0, .int .i64 0, .int .i64 0, .string ⟨#[]⟩, .int .i64 0, .int .i64 0, .int .i64 0] 38)) w1.heap.size 13 (uq M1.zeroU) := uq_new w1 M1.zeroU 38
              refine hK.out _ _ (kp_alloc hS _) (fun hS2 => ?_)
              clear hK
              (try simp only [Act.put, aZ, bZ, cZ, dZ, eZ, fZ])
              exact st311.out _ _ ⟨gT, aW, cW, lo, hi, qA, w1.heap.size, rfl, (m1.below hb2), m2, m3, (Nat.le_trans m4 hb2.size), (RowAt.below p1 hb2), p2, p3, n1, hS.1.size, (.inr m4), (by have := p1.lt; omega)⟩ hS2
          refine have_state 9 #[true, true, true, false, true, false, false, false, false, false, true, true, false, false, false] (fun act w1 => ∃ (gT : Nat) (qA : Nat) (qB : Nat), act = (⟨#[.agg #[.int .i64 id, .int .i64 a, .int .i64 b, .int .i64 c, .slice av n cn], .agg #[.int .i64 ok, .int .i64 ot, .int .i64 oa, .int .i64 ob, .string os, .int .i64 oc, .int .i64 oe], .int .i64 now, .pointer (some ⟨gA, 0, none⟩), .pointer (some ⟨gE, 0, none⟩), undef, u6, .int .i64 (r - (os.size : Int)), .pointer (some ⟨qA, 0, none⟩), .pointer (some ⟨qB, 0, none⟩), undef, undef, undef, undef, undef, undef, undef, undef, undef, undef, undef, u21, u22, u23, u24, u25, u26, u27, u28, u29, u30, u31, .agg #[.int .i64 id, .int .i64 a, .int .i64 b, .int .i64 c, .slice av n cn], .agg #[.int .i64 id, .int .i64 a, .int .i64 b, .int .i64 c, .slice (some ⟨gT, 0, none⟩) n n], .agg #[.int .i64 ok, .int .i64 ot, .int .i64 oa, .int .i64 ob, .string os, .int .i64 oc, .int .i64 oe], u35, .int .i64 now, u37, u38, u39, u40, u41, u42, u43, u44, u45, u46, u47, u48, u49, u50, u51, u52, u53, u54, u55, u56, u57, u58, u59, u60, u61, u62, u63, u64, u65, u66, u67, u68, u69, u70, u71, u72, u73, u74, u75, u76, u77, u78, u79, u80, u81, u82, u83, u84, u85, u86, u87, u88, u89, u90, u91, u92, u93, u94, u95, u96, u97, u98, u99, u100, u101, u102, u103, u104, u105, u106, u107, u108, u109, u110, u111, u112, u113, u114, u115, u116, u117, u118, u119, u120, u121, u122, u123, u124, u125, u126, u127, u128, u129, u130, u131, u132, u133, u134, u135, u136, u137], []⟩ : Act) ∧ RowAt w1 gT (n * 13) (ucell us) ∧ RgAt w1 qA 0 0 0 0 none 0 0 ∧ w3.heap.size ≤ qA ∧ RowAt w1 qB 13 (uq M1.zeroU) ∧ w3.heap.size ≤ qB ∧ ¬ qA = qB) ?_ (fun st111 => ?_)
          · rintro act w1 ⟨gT, qA, qB, rfl, T1, p1, p2, r1, r2, pr⟩ hS
            refine wpAnyH_ready (rs := [3]) (by kernel_rfl) (by simp) ?_
            refine (AllReadyH.cons (o := _) rfl (fun K hK => ?_) AllReadyH.nil)
            · go_simp
              refine (toOp_any ok ot oa ob oc oe os _).mono ?_
              rintro e w2 ⟨rfl, hb2⟩
              go_wp2_with fail
              refine hK.out _ _ (kp_step hS hb2) (fun hS2 => ?_)
              clear hK
              (try simp only [Act.put, aZ, bZ, cZ, dZ, eZ, fZ])
              exact st211.out _ _ ⟨gT, qA, qB, rfl, (T1.below hb2), (RowAt.below p1 hb2), p2, (RowAt.below r1 hb2), r2, pr⟩ hS2
          refine have_state 9 #[true, true, true, true, true, false, false, false, false, false, false, true, false, false, false] (fun act w1 => ∃ (gT : Nat) (qB : Nat), act = (⟨#[.agg #[.int .i64 id, .int .i64 a, .int .i64 b, .int .i64 c, .slice av n cn], .agg #[.int .i64 ok, .int .i64 ot, .int .i64 oa, .int .i64 ob, .string os, .int .i64 oc, .int .i64 oe], .int .i64 now, .pointer (some ⟨gA, 0, none⟩), .pointer (some ⟨gE, 0, none⟩), undef, u6, .int .i64 (r - (os.size : Int)), undef, .pointer (some ⟨qB, 0, none⟩), undef, undef, undef, undef, undef, undef, undef, undef, undef, undef, undef, u21, u22, u23, u24, u25, u26, u27, u28, u29, u30, u31, .agg #[.int .i64 id, .int .i64 a, .int .i64 b, .int .i64 c, .slice av n cn], .agg #[.int .i64 id, .int .i64 a, .int .i64 b, .int .i64 c, .slice (some ⟨gT, 0, none⟩) n n], .agg #[.int .i64 ok, .int .i64 ot, .int .i64 oa, .int .i64 ob, .string os, .int .i64 oc, .int .i64 oe], .agg #[.int .i64 ok, .int .i64 ot, .int .i64 oa, .int .i64 ob, .string os, .int .i64 oc, .int .i64 oe], .int .i64 now, u37, u38, u39, u40, u41, u42, u43, u44, u45, u46, u47, u48, u49, u50, u51, u52, u53, u54, u55, u56, u57, u58, u59, u60, u61, u62, u63, u64, u65, u66, u67, u68, u69, u70, u71, u72, u73, u74, u75, u76, u77, u78, u79, u80, u81, u82, u83, u84, u85, u86, u87, u88, u89, u90, u91, u92, u93, u94, u95, u96, u97, u98, u99, u100, u101, u102, u103, u104, u105, u106, u107, u108, u109, u110, u111, u112, u113, u114, u115, u116, u117, u118, u119, u120, u121, u122, u123, u124, u125, u126, u127, u128, u129, u130, u131, u132, u133, u134, u135, u136, u137], []⟩ : Act) ∧ RowAt w1 gT (n * 13) (ucell us) ∧ RowAt w1 qB 13 (uq M1.zeroU) ∧ w3.heap.size ≤ qB) ?_ (fun st201 => ?_)
          · rintro act w1 ⟨gT, qB, rfl, T1, r1, r2⟩ hS
            refine wpAnyH_ready (rs := [5, 10]) (by kernel_rfl) (by simp) ?_
            refine (AllReadyH.cons (o := _) rfl (fun K hK => ?_) (AllReadyH.cons (o := _) rfl (fun K hK => ?_) AllReadyH.nil))
            · go_simp
              have js := issued_spec ⟨id, a, b, c, us⟩ ⟨ok, ot, oa, ob, os, oc, oe⟩ now _ _ _ _ (isUpds_of_row HL1.out (Nat.le_refl _) (by unfold maxLen; omega) HT1.out T1) ho
              unfold IsS RgD at js
              rw [HX.out, HU.out, HK.out, HQ.out] at js
              refine js.mono ?_
              clear js
              rintro e w2 ⟨⟨_, rfl, aW, cW, rfl, m1⟩, hb2⟩
              go_wp2_with fail
              refine hK.out _ _ (kp_step hS hb2) (fun hS2 => ?_)
              clear hK
              (try simp only [Act.put, aZ, bZ, cZ, dZ, eZ, fZ])
              refine wpAnyH_take (i := 6) (v := ?_) rfl (by kernel_rfl) (by kernel_rfl) (by kernel_rfl) (fun _ _ _ h => h) (Or.inl ⟨by rfl, ?_⟩) hS2 ?_
              rotate_left
              · (intro w hSw; (try dsimp only at hSw); go_simp; try (with_reducible rfl))
              (try simp only [Act.put, aZ, bZ, cZ, dZ, eZ, fZ])
              refine wpAnyH_take (i := 7) (v := ?_) rfl (by kernel_rfl) (by kernel_rfl) (by kernel_rfl) (fun _ _ _ h => h) (Or.inl ⟨by rfl, ?_⟩) hS2 ?_
              rotate_left
              · (intro w hSw; (try dsimp only at hSw); go_simp; try (with_reducible rfl))
              (try simp only [Act.put, aZ, bZ, cZ, dZ, eZ, fZ])
              refine wpAnyH_take (i := 8) (v := ?_) rfl (by kernel_rfl) (by kernel_rfl) (by kernel_rfl) (fun _ _ _ h => h) (Or.inl ⟨by rfl, ?_⟩) hS2 ?_
              rotate_left
              · (intro w hSw; (try dsimp only at hSw); go_simp; try (with_reducible rfl))
              (try simp only [Act.put, aZ, bZ, cZ, dZ, eZ, fZ])
              refine wpAnyH_take (i := 9) (v := ?_) rfl (by kernel_rfl) (by kernel_rfl) (by kernel_rfl) (fun _ _ _ h => h) (Or.inl ⟨by rfl, ?_⟩) hS2 ?_
              rotate_left
              · (intro w hSw; (try dsimp only at hSw); go_simp; try (with_reducible rfl))
              (try simp only [Act.put, aZ, bZ, cZ, dZ, eZ, fZ])
              exact st301.out _ _ ⟨gT, aW, cW, w1.heap.size, w2.heap.size, qB, rfl, m1, hS.1.size, hb2.size, (Nat.le_refl _), (RowAt.below r1 hb2), r2, (.inl r1.lt)⟩ hS2
            · go_simp
              have hb2 : Below w1.heap.size w1 (w1.alloc (.cells #[.int .i64 0, .int .i64 0, .int .i64 0, .int .i64 0, .slice none 0 0] 28)) := (Below.refl _ _).alloc (Nat.le_refl _) _
              have n1 : RgAt (w1.alloc (.cells #[.int .i64 0, .int .i64 0, .int .i64 0, .int .i64 0, .slice none 0 0] 28)) w1.heap.size 0 0 0 0 none 0 0 := rg_new w1 0 0 0 0 none 0 0 28
              refine hK.out _ _ (kp_alloc hS _) (fun hS2 => ?_)
              clear hK
              (try simp only [Act.put, aZ, bZ, cZ, dZ, eZ, fZ])
              exact st211.out _ _ ⟨gT, w1.heap.size, qB, rfl, (T1.below hb2), n1, hS.1.size, (RowAt.below r1 hb2), r2, (by have := r1.lt; omega)⟩ hS2
          refine have_state 9 #[true, true, true, true, true, false, false, false, false, false, true, false, false, false, false] (fun act w1 => ∃ (gT : Nat) (qA : Nat), act = (⟨#[.agg #[.int .i64 id, .int .i64 a, .int .i64 b, .int .i64 c, .slice av n cn], .agg #[.int .i64 ok, .int .i64 ot, .int .i64 oa, .int .i64 ob, .string os, .int .i64 oc, .int .i64 oe], .int .i64 now, .pointer (some ⟨gA, 0, none⟩), .pointer (some ⟨gE, 0, none⟩), undef, u6, .int .i64 (r - (os.size : Int)), .pointer (some ⟨qA, 0, none⟩), undef, undef, undef, undef, undef, undef, undef, undef, undef, undef, undef, undef, u21, u22, u23, u24, u25, u26, u27, u28, u29, u30, u31, .agg #[.int .i64 id, .int .i64 a, .int .i64 b, .int .i64 c, .slice av n cn], .agg #[.int .i64 id, .int .i64 a, .int .i64 b, .int .i64 c, .slice (some ⟨gT, 0, none⟩) n n], .agg #[.int .i64 ok, .int .i64 ot, .int .i64 oa, .int .i64 ob, .string os, .int .i64 oc, .int .i64 oe], .agg #[.int .i64 ok, .int .i64 ot, .int .i64 oa, .int .i64 ob, .string os, .int .i64 oc, .int .i64 oe], .int .i64 now, u37, u38, u39, u40, u41, u42, u43, u44, u45, u46, u47, u48, u49, u50, u51, u52, u53, u54, u55, u56, u57, u58, u59, u60, u61, u62, u63, u64, u65, u66, u67, u68, u69, u70, u71, u72, u73, u74, u75, u76, u77, u78, u79, u80, u81, u82, u83, u84, u85, u86, u87, u88, u89, u90, u91, u92, u93, u94, u95, u96, u97, u98, u99, u100, u101, u102, u103, u104, u105, u106, u107, u108, u109, u110, u111, u112, u113, u114, u115, u116, u117, u118, u119, u120, u121, u122, u123, u124, u125, u126, u127, u128, u129, u130, u131, u132, u133, u134, u135, u136, u137], []⟩ : Act) ∧ RowAt w1 gT (n * 13) (ucell us) ∧ RgAt w1 qA 0 0 0 0 none 0 0 ∧ w3.heap.size ≤ qA) ?_ (fun st210 => ?_)
          · rintro act w1 ⟨gT, qA, rfl, T1, p1, p2⟩ hS
            refine wpAnyH_ready (rs := [5, 11]) (by kernel_rfl) (by simp) ?_
            refine (AllReadyH.cons (o := _) rfl (fun K hK => ?_) (AllReadyH.cons (o := _) rfl (fun K hK => ?_) AllReadyH.nil))
            · go_simp
              have js := issued_spec ⟨id, a, b, c, us⟩ ⟨ok, ot, oa, ob, os, oc, oe⟩ now _ _ _ _ (isUpds_of_row HL1.out (Nat.le_refl _) (by unfold maxLen; omega) HT1.out T1) ho
              unfold IsS RgD at js
              rw [HX.out, HU.out, HK.out, HQ.out] at js
              refine js.mono ?_
              clear js
              rintro e w2 ⟨⟨_, rfl, aW, cW, rfl, m1⟩, hb2⟩
              go_wp2_with fail
              refine hK.out _ _ (kp_step hS hb2) (fun hS2 => ?_)
              clear hK
              (try simp only [Act.put, aZ, bZ, cZ, dZ, eZ, fZ])
              refine wpAnyH_take (i := 6) (v := ?_) rfl (by kernel_rfl) (by kernel_rfl) (by kernel_rfl) (fun _ _ _ h => h) (Or.inl ⟨by rfl, ?_⟩) hS2 ?_
              rotate_left
              · (intro w hSw; (try dsimp only at hSw); go_simp; try (with_reducible rfl))
              (try simp only [Act.put, aZ, bZ, cZ, dZ, eZ, fZ])
              refine wpAnyH_take (i := 7) (v := ?_) rfl (by kernel_rfl) (by kernel_rfl) (by kernel_rfl) (fun _ _ _ h => h) (Or.inl ⟨by rfl, ?_⟩) hS2 ?_
              rotate_left
              · (intro w hSw; (try dsimp only at hSw); go_simp; try (with_reducible rfl))
              (try simp only [Act.put, aZ, bZ, cZ, dZ, eZ, fZ])
              refine wpAnyH_take (i := 8) (v := ?_) rfl (by kernel_rfl) (by kernel_rfl) (by kernel_rfl) (fun _ _ _ h => h) (Or.inl ⟨by rfl, ?_⟩) hS2 ?_
              rotate_left
              · (intro w hSw; (try dsimp only at hSw); go_simp; try (with_reducible rfl))
              (try simp only [Act.put, aZ, bZ, cZ, dZ, eZ, fZ])
              refine wpAnyH_take (i := 9) (v := ?_) rfl (by kernel_rfl) (by kernel_rfl) (by kernel_rfl) (fun _ _ _ h => h) (Or.inl ⟨by rfl, ?_⟩) hS2 ?_
              rotate_left
              · (intro w hSw; (try dsimp only at hSw); go_simp; try (with_reducible rfl))
              (try simp only [Act.put, aZ, bZ, cZ, dZ, eZ, fZ])
              exact st310.out _ _ ⟨gT, aW, cW, w1.heap.size, w2.heap.size, qA, rfl, m1, hS.1.size, hb2.size, (Nat.le_refl _), (RowAt.below p1 hb2), p2, (.inl p1.lt)⟩ hS2
            · go_simp
              have hb2 : Below w1.heap.size w1 (w1.alloc (.cells #[.int .i64 0, .int .i64 0, .int .i64 0, .int .i64 0, .int .i64 0, .int .i64 0, .int .i64 0, .int .i64 0, .int .i64 0, .string ⟨#[]⟩, .int .i64 0, .int .i64 0, .int .i64 0] 38)) := (Below.refl _ _).alloc (Nat.le_refl _) _
              have n1 : RowAt (w1.alloc (.cells #[.int .i64 0, .int .i64 0, .int .i64 0, .int .i64 0, .int .i64 0, .int .i64 0, .int .i64 0, .int .i64 0, .int .i64 0, .string ⟨#[]⟩, .int .i64 0, .int .i64 0, .int .i64 0] 38)) w1.heap.size 13 (uq M1.zeroU) := uq_new w1 M1.zeroU 38
              refine hK.out _ _ (kp_alloc hS _) (fun hS2 => ?_)
              clear hK
              (try simp only [Act.put, aZ, bZ, cZ, dZ, eZ, fZ])
              exact st211.out _ _ ⟨gT, qA, w1.heap.size, rfl, (T1.below hb2), (RowAt.below p1 hb2), p2, n1, hS.1.size, (by have := p1.lt; omega)⟩ hS2
          refine have_state 5 #[true, true, true, true, true, true, true, true, true, true, false, false, false, false, false] (fun act w1 => ∃ (gT : Nat) (aW : Option Addr) (cW : Nat) (lo : Nat) (hi : Nat), act = (⟨#[.agg #[.int .i64 id, .int .i64 a, .int .i64 b, .int .i64 c, .slice av n cn], .agg #[.int .i64 ok, .int .i64 ot, .int .i64 oa, .int .i64 ob, .string os, .int .i64 oc, .int .i64 oe], .int .i64 now, .pointer (some ⟨gA, 0, none⟩), .pointer (some ⟨gE, 0, none⟩), undef, u6, .int .i64 (r - (os.size : Int)), undef, undef, undef, undef, undef, undef, undef, undef, undef, undef, undef, undef, undef, u21, u22, u23, u24, u25, u26, u27, u28, u29, u30, .tuple #[.agg #[.int .i64 t.id, .int .i64 t.a, .int .i64 t.b, .int .i64 t.c, .slice aW q cW], .agg #[.int .i64 u.dr, .int .i64 u.dn, .int .i64 u.sw, .int .i64 u.sc, .int .i64 u.sr, .int .i64 u.k, .int .i64 u.tr, .int .i64 u.id, .int .i64 u.pa, .string u.s, .int .i64 u.st, .int .i64 u.en, .int .i64 u.lv], .int .i64 kc], .agg #[.int .i64 id, .int .i64 a, .int .i64 b, .int .i64 c, .slice av n cn], .agg #[.int .i64 id, .int .i64 a, .int .i64 b, .int .i64 c, .slice (some ⟨gT, 0, none⟩) n n], .agg #[.int .i64 ok, .int .i64 ot, .int .i64 oa, .int .i64 ob, .string os, .int .i64 oc, .int .i64 oe], .agg #[.int .i64 ok, .int .i64 ot, .int .i64 oa, .int .i64 ob, .string os, .int .i64 oc, .int .i64 oe], .int .i64 now, .tuple #[.agg #[.int .i64 t.id, .int .i64 t.a, .int .i64 t.b, .int .i64 t.c, .slice aW q cW], .agg #[.int .i64 u.dr, .int .i64 u.dn, .int .i64 u.sw, .int .i64 u.sc, .int .i64 u.sr, .int .i64 u.k, .int .i64 u.tr, .int .i64 u.id, .int .i64 u.pa, .string u.s, .int .i64 u.st, .int .i64 u.en, .int .i64 u.lv], .int .i64 kc], .agg #[.int .i64 t.id, .int .i64 t.a, .int .i64 t.b, .int .i64 t.c, .slice aW q cW], .agg #[.int .i64 u.dr, .int .i64 u.dn, .int .i64 u.sw, .int .i64 u.sc, .int .i64 u.sr, .int .i64 u.k, .int .i64 u.tr, .int .i64 u.id, .int .i64 u.pa, .string u.s, .int .i64 u.st, .int .i64 u.en, .int .i64 u.lv], .int .i64 kc, u41, u42, u43, u44, u45, u46, u47, u48, u49, u50, u51, u52, u53, u54, u55, u56, u57, u58, u59, u60, u61, u62, u63, u64, u65, u66, u67, u68, u69, u70, u71, u72, u73, u74, u75, u76, u77, u78, u79, u80, u81, u82, u83, u84, u85, u86, u87, u88, u89, u90, u91, u92, u93, u94, u95, u96, u97, u98, u99, u100, u101, u102, u103, u104, u105, u106, u107, u108, u109, u110, u111, u112, u113, u114, u115, u116, u117, u118, u119, u120, u121, u122, u123, u124, u125, u126, u127, u128, u129, u130, u131, u132, u133, u134, u135, u136, u137], []⟩ : Act) ∧ MU w1 aW q cW lo hi (ucell t.us) ∧ w3.heap.size ≤ lo ∧ lo ≤ hi ∧ hi ≤ w1.heap.size) ?_ (fun st300 => ?_)
          · rintro act w1 ⟨gT, aW, cW, lo, hi, rfl, m1, m2, m3, m4⟩ hS
            refine wpAnyH_ready (rs := [10, 11]) (by kernel_rfl) (by simp) ?_
            refine (AllReadyH.cons (o := _) rfl (fun K hK => ?_) (AllReadyH.cons (o := _) rfl (fun K hK => ?_) AllReadyH.nil))
            · go_simp
              have hb2 : Below w1.heap.size w1 (w1.alloc (.cells #[.int .i64 0, .int .i64 0, .int .i64 0, .int .i64 0, .slice none 0 0] 28)) := (Below.refl _ _).alloc (Nat.le_refl _) _
              have n1 : RgAt (w1.alloc (.cells #[.int .i64 0, .int .i64 0, .int .i64 0, .int .i64 0, .slice none 0 0] 28)) w1.heap.size 0 0 0 0 none 0 0 := rg_new w1 0 0 0 0 none 0 0 28
              refine hK.out _ _ (kp_alloc hS _) (fun hS2 => ?_)
              clear hK
              (try simp only [Act.put, aZ, bZ, cZ, dZ, eZ, fZ])
              exact st310.out _ _ ⟨gT, aW, cW, lo, hi, w1.heap.size, rfl, (m1.below hb2), m2, m3, (Nat.le_trans m4 hb2.size), n1, hS.1.size, (.inr m4)⟩ hS2
            · go_simp
              have hb2 : Below w1.heap.size w1 (w1.alloc (.cells #[.int .i64 0, .int .i64 0, .int .i64 0, .int .i64 0, .int .i64 0, .int .i64 0, .int .i64 0, .int .i64 0, .int .i64 0, .string ⟨#[]⟩, .int .i64 0, .int .i64 0, .int .i64 0] 38)) := (Below.refl _ _).alloc (Nat.le_refl _) _
              have n1 : RowAt (w1.alloc (.cells #[.int .i64 0, .int .i64 0, .int .i64 0, .int .i64 0, .int .i64 0, .int .i64 0, .int .i64 0, .int .i64 0, .int .i64 0, .string ⟨#[]⟩, .int .i64 0, .int .i64 0, .int .i64 0] 38)) w1.heap.size 13 (uq M1.zeroU) := uq_new w1 M1.zeroU 38
              refine hK.out _ _ (kp_alloc hS _) (fun hS2 => ?_)
              clear hK
              (try simp only [Act.put, aZ, bZ, cZ, dZ, eZ, fZ])
              exact st301.out _ _ ⟨gT, aW, cW, lo, hi, w1.heap.size, rfl, (m1.below hb2), m2, m3, (Nat.le_trans m4 hb2.size), n1, hS.1.size, (.inr m4)⟩ hS2
          refine have_state 10 #[true, false, true, false, true, false, false, false, false, false, true, true, false, false, false] (fun act w1 => ∃ (qA : Nat) (qB : Nat), act = (⟨#[.agg #[.int .i64 id, .int .i64 a, .int .i64 b, .int .i64 c, .slice av n cn], .agg #[.int .i64 ok, .int .i64 ot, .int .i64 oa, .int .i64 ob, .string os, .int .i64 oc, .int .i64 oe], .int .i64 now, .pointer (some ⟨gA, 0, none⟩), .pointer (some ⟨gE, 0, none⟩), undef, u6, .int .i64 (r - (os.size : Int)), .pointer (some ⟨qA, 0, none⟩), .pointer (some ⟨qB, 0, none⟩), undef, undef, undef, undef, undef, undef, undef, undef, undef, undef, undef, u21, u22, u23, u24, u25, u26, u27, u28, u29, u30, u31, .agg #[.int .i64 id, .int .i64 a, .int .i64 b, .int .i64 c, .slice av n cn], u33, .agg #[.int .i64 ok, .int .i64 ot, .int .i64 oa, .int .i64 ob, .string os, .int .i64 oc, .int .i64 oe], u35, .int .i64 now, u37, u38, u39, u40, u41, u42, u43, u44, u45, u46, u47, u48, u49, u50, u51, u52, u53, u54, u55, u56, u57, u58, u59, u60, u61, u62, u63, u64, u65, u66, u67, u68, u69, u70, u71, u72, u73, u74, u75, u76, u77, u78, u79, u80, u81, u82, u83, u84, u85, u86, u87, u88, u89, u90, u91, u92, u93, u94, u95, u96, u97, u98, u99, u100, u101, u102, u103, u104, u105, u106, u107, u108, u109, u110, u111, u112, u113, u114, u115, u116, u117, u118, u119, u120, u121, u122, u123, u124, u125, u126, u127, u128, u129, u130, u131, u132, u133, u134, u135, u136, u137], []⟩ : Act) ∧ RgAt w1 qA 0 0 0 0 none 0 0 ∧ w3.heap.size ≤ qA ∧ RowAt w1 qB 13 (uq M1.zeroU) ∧ w3.heap.size ≤ qB ∧ ¬ qA = qB) ?_ (fun st011 => ?_)
          · rintro act w1 ⟨qA, qB, rfl, p1, p2, r1, r2, pr⟩ hS
            refine wpAnyH_ready (rs := [1]) (by kernel_rfl) (by simp) ?_
            refine (AllReadyH.cons (o := _) rfl (fun K hK => ?_) AllReadyH.nil)
            · go_simp
              refine (toRegion_any id a b c _ _ _ _ _ ((h1.below B3).below hS.1) hn').mono ?_
              rintro e w2 ⟨gT, rfl, hgT, T2, hb2⟩
              go_wp2_with fail
              refine hK.out _ _ (kp_step hS hb2) (fun hS2 => ?_)
              clear hK
              (try simp only [Act.put, aZ, bZ, cZ, dZ, eZ, fZ])
              exact st111.out _ _ ⟨gT, qA, qB, rfl, T2, (RowAt.below p1 hb2), p2, (RowAt.below r1 hb2), r2, pr⟩ hS2
          refine have_state 10 #[true, true, true, false, true, false, false, false, false, false, false, true, false, false, false] (fun act w1 => ∃ (gT : Nat) (qB : Nat), act = (⟨#[.agg #[.int .i64 id, .int .i64 a, .int .i64 b, .int .i64 c, .slice av n cn], .agg #[.int .i64 ok, .int .i64 ot, .int .i64 oa, .int .i64 ob, .string os, .int .i64 oc, .int .i64 oe], .int .i64 now, .pointer (some ⟨gA, 0, none⟩), .pointer (some ⟨gE, 0, none⟩), undef, u6, .int .i64 (r - (os.size : Int)), undef, .pointer (some ⟨qB, 0, none⟩), undef, undef, undef, undef, undef, undef, undef, undef, undef, undef, undef, u21, u22, u23, u24, u25, u26, u27, u28, u29, u30, u31, .agg #[.int .i64 id, .int .i64 a, .int .i64 b, .int .i64 c, .slice av n cn], .agg #[.int .i64 id, .int .i64 a, .int .i64 b, .int .i64 c, .slice (some ⟨gT, 0, none⟩) n n], .agg #[.int .i64 ok, .int .i64 ot, .int .i64 oa, .int .i64 ob, .string os, .int .i64 oc, .int .i64 oe], u35, .int .i64 now, u37, u38, u39, u40, u41, u42, u43, u44, u45, u46, u47, u48, u49, u50, u51, u52, u53, u54, u55, u56, u57, u58, u59, u60, u61, u62, u63, u64, u65, u66, u67, u68, u69, u70, u71, u72, u73, u74, u75, u76, u77, u78, u79, u80, u81, u82, u83, u84, u85, u86, u87, u88, u89, u90, u91, u92, u93, u94, u95, u96, u97, u98, u99, u100, u101, u102, u103, u104, u105, u106, u107, u108, u109, u110, u111, u112, u113, u114, u115, u116, u117, u118, u119, u120, u121, u122, u123, u124, u125, u126, u127, u128, u129, u130, u131, u132, u133, u134, u135, u136, u137], []⟩ : Act) ∧ RowAt w1 gT (n * 13) (ucell us) ∧ RowAt w1 qB 13 (uq M1.zeroU) ∧ w3.heap.size ≤ qB) ?_ (fun st101 => ?_)
          · rintro act w1 ⟨gT, qB, rfl, T1, r1, r2⟩ hS
            refine wpAnyH_ready (rs := [3, 10]) (by kernel_rfl) (by simp) ?_
            refine (AllReadyH.cons (o := _) rfl (fun K hK => ?_) (AllReadyH.cons (o := _) rfl (fun K hK => ?_) AllReadyH.nil))
            · go_simp
              refine (toOp_any ok ot oa ob oc oe os _).mono ?_
              rintro e w2 ⟨rfl, hb2⟩
              go_wp2_with fail
              refine hK.out _ _ (kp_step hS hb2) (fun hS2 => ?_)
              clear hK
              (try simp only [Act.put, aZ, bZ, cZ, dZ, eZ, fZ])
              exact st201.out _ _ ⟨gT, qB, rfl, (T1.below hb2), (RowAt.below r1 hb2), r2⟩ hS2
            · go_simp
              have hb2 : Below w1.heap.size w1 (w1.alloc (.cells #[.int .i64 0, .int .i64 0, .int .i64 0, .int .i64 0, .slice none 0 0] 28)) := (Below.refl _ _).alloc (Nat.le_refl _) _
              have n1 : RgAt (w1.alloc (.cells #[.int .i64 0, .int .i64 0, .int .i64 0, .int .i64 0, .slice none 0 0] 28)) w1.heap.size 0 0 0 0 none 0 0 := rg_new w1 0 0 0 0 none 0 0 28
              refine hK.out _ _ (kp_alloc hS _) (fun hS2 => ?_)
              clear hK
              (try simp only [Act.put, aZ, bZ, cZ, dZ, eZ, fZ])
              exact st111.out _ _ ⟨gT, w1.heap.size, qB, rfl, (T1.below hb2), n1, hS.1.size, (RowAt.below r1 hb2), r2, (by have := r1.lt; omega)⟩ hS2
          refine have_state 10 #[true, true, true, false, true, false, false, false, false, false, true, false, false, false, false] (fun act w1 => ∃ (gT : Nat) (qA : Nat), act = (⟨#[.agg #[.int .i64 id, .int .i64 a, .int .i64 b, .int .i64 c, .slice av n cn], .agg #[.int .i64 ok, .int .i64 ot, .int .i64 oa, .int .i64 ob, .string os, .int .i64 oc, .int .i64 oe], .int .i64 now, .pointer (some ⟨gA, 0, none⟩), .pointer (some ⟨gE, 0, none⟩), undef, u6, .int .i64 (r - (os.size : Int)), .pointer (some ⟨qA, 0, none⟩), undef, undef, undef, undef, undef, undef, undef, undef, undef, undef, undef, undef, u21, u22, u23, u24, u25, u26, u27, u28, u29, u30, u31, .agg #[.int .i64 id, .int .i64 a, .int .i64 b, .int .i64 c, .slice av n cn], .agg #[.int .i64 id, .int .i64 a, .int .i64 b, .int .i64 c, .slice (some ⟨gT, 0, none⟩) n n], .agg #[.int .i64 ok, .int .i64 ot, .int .i64 oa, .int .i64 ob, .string os, .int .i64 oc, .int .i64 oe], u35, .int .i64 now, u37, u38, u39, u40, u41, u42, u43, u44, u45, u46, u47, u48, u49, u50, u51, u52, u53, u54, u55, u56, u57, u58, u59, u60, u61, u62, u63, u64, u65, u66, u67, u68, u69, u70, u71, u72, u73, u74, u75, u76, u77, u78, u79, u80, u81, u82, u83, u84, u85, u86, u87, u88, u89, u90, u91, u92, u93, u94, u95, u96, u97, u98, u99, u100, u101, u102, u103, u104, u105, u106, u107, u108, u109, u110, u111, u112, u113, u114, u115, u116, u117, u118, u119, u120, u121, u122, u123, u124, u125, u126, u127, u128, u129, u130, u131, u132, u133, u134, u135, u136, u137], []⟩ : Act) ∧ RowAt w1 gT (n * 13) (ucell us) ∧ RgAt w1 qA 0 0 0 0 none 0 0 ∧ w3.heap.size ≤ qA) ?_ (fun st110 => ?_)
          · rintro act w1 ⟨gT, qA, rfl, T1, p1, p2⟩ hS
            refine wpAnyH_ready (rs := [3, 11]) (by kernel_rfl) (by simp) ?_
            refine (AllReadyH.cons (o := _) rfl (fun K hK => ?_) (AllReadyH.cons (o := _) rfl (fun K hK => ?_) AllReadyH.nil))
            · go_simp
              refine (toOp_any ok ot oa ob oc oe os _).mono ?_
              rintro e w2 ⟨rfl, hb2⟩
              go_wp2_with fail
              refine hK.out _ _ (kp_step hS hb2) (fun hS2 => ?_)
              clear hK
              (try simp only [Act.put, aZ, bZ, cZ, dZ, eZ, fZ])
              exact st210.out _ _ ⟨gT, qA, rfl, (T1.below hb2), (RowAt.below p1 hb2), p2⟩ hS2
            · go_simp
              have hb2 : Below w1.heap.size w1 (w1.alloc (.cells #[.int .i64 0, .int .i64 0, .int .i64 0, .int .i64 0, .int .i64 0, .int .i64 0, .int .i64 0, .int .i64 0, .int .i64 0, .string ⟨#[]⟩, .int .i64 0, .int .i64 0, .int .i64 0] 38)) := (Below.refl _ _).alloc (Nat.le_refl _) _
              have n1 : RowAt (w1.alloc (.cells #[.int .i64 0, .int .i64 0, .int .i64 0, .int .i64 0, .int .i64 0, .int .i64 0, .int .i64 0, .int .i64 0, .int .i64 0, .string ⟨#[]⟩, .int .i64 0, .int .i64 0, .int .i64 0] 38)) w1.heap.size 13 (uq M1.zeroU) := uq_new w1 M1.zeroU 38
              refine hK.out _ _ (kp_alloc hS _) (fun hS2 => ?_)
              clear hK
              (try simp only [Act.put, aZ, bZ, cZ, dZ, eZ, fZ])
              exact st111.out _ _ ⟨gT, qA, w1.heap.size, rfl, (T1.below hb2), (RowAt.below p1 hb2), p2, n1, hS.1.size, (by have := p1.lt; omega)⟩ hS2
          refine have_state 10 #[true, true, true, true, true, false, false, false, false, false, false, false, false, false, false] (fun act w1 => ∃ (gT : Nat), act = (⟨#[.agg #[.int .i64 id, .int .i64 a, .int .i64 b, .int .i64 c, .slice av n cn], .agg #[.int .i64 ok, .int .i64 ot, .int .i64 oa, .int .i64 ob, .string os, .int .i64 oc, .int .i64 oe], .int .i64 now, .pointer (some ⟨gA, 0, none⟩), .pointer (some ⟨gE, 0, none⟩), undef, u6, .int .i64 (r - (os.size : Int)), undef, undef, undef, undef, undef, undef, undef, undef, undef, undef, undef, undef, undef, u21, u22, u23, u24, u25, u26, u27, u28, u29, u30, u31, .agg #[.int .i64 id, .int .i64 a, .int .i64 b, .int .i64 c, .slice av n cn], .agg #[.int .i64 id, .int .i64 a, .int .i64 b, .int .i64 c, .slice (some ⟨gT, 0, none⟩) n n], .agg #[.int .i64 ok, .int .i64 ot, .int .i64 oa, .int .i64 ob, .string os, .int .i64 oc, .int .i64 oe], .agg #[.int .i64 ok, .int .i64 ot, .int .i64 oa, .int .i64 ob, .string os, .int .i64 oc, .int .i64 oe], .int .i64 now, u37, u38, u39, u40, u41, u42, u43, u44, u45, u46, u47, u48, u49, u50, u51, u52, u53, u54, u55, u56, u57, u58, u59, u60, u61, u62, u63, u64, u65, u66, u67, u68, u69, u70, u71, u72, u73, u74, u75, u76, u77, u78, u79, u80, u81, u82, u83, u84, u85, u86, u87, u88, u89, u90, u91, u92, u93, u94, u95, u96, u97, u98, u99, u100, u101, u102, u103, u104, u105, u106, u107, u108, u109, u110, u111, u112, u113, u114, u115, u116, u117, u118, u119, u120, u121, u122, u123, u124, u125, u126, u127, u128, u129, u130, u131, u132, u133, u134, u135, u136, u137], []⟩ : Act) ∧ RowAt w1 gT (n * 13) (ucell us)) ?_ (fun st200 => ?_)
          · rintro act w1 ⟨gT, rfl, T1⟩ hS
            refine wpAnyH_ready (rs := [5, 10, 11]) (by kernel_rfl) (by simp) ?_
            refine (AllReadyH.cons (o := _) rfl (fun K hK => ?_) (AllReadyH.cons (o := _) rfl (fun K hK => ?_) (AllReadyH.cons (o := _) rfl (fun K hK => ?_) AllReadyH.nil)))
            · go_simp
              have js := issued_spec ⟨id, a, b, c, us⟩ ⟨ok, ot, oa, ob, os, oc, oe⟩ now _ _ _ _ (isUpds_of_row HL1.out (Nat.le_refl _) (by unfold maxLen; omega) HT1.out T1) ho
              unfold IsS RgD at js
              rw [HX.out, HU.out, HK.out, HQ.out] at js
              refine js.mono ?_
              clear js
              rintro e w2 ⟨⟨_, rfl, aW, cW, rfl, m1⟩, hb2⟩
              go_wp2_with fail
              refine hK.out _ _ (kp_step hS hb2) (fun hS2 => ?_)
              clear hK
              (try simp only [Act.put, aZ, bZ, cZ, dZ, eZ, fZ])
              refine wpAnyH_take (i := 6) (v := ?_) rfl (by kernel_rfl) (by kernel_rfl) (by kernel_rfl) (fun _ _ _ h => h) (Or.inl ⟨by rfl, ?_⟩) hS2 ?_
              rotate_left
              · (intro w hSw; (try dsimp only at hSw); go_simp; try (with_reducible rfl))
              (try simp only [Act.put, aZ, bZ, cZ, dZ, eZ, fZ])
              refine wpAnyH_take (i := 7) (v := ?_) rfl (by kernel_rfl) (by kernel_rfl) (by kernel_rfl) (fun _ _ _ h => h) (Or.inl ⟨by rfl, ?_⟩) hS2 ?_
              rotate_left
              · (intro w hSw; (try dsimp only at hSw); go_simp; try (with_reducible rfl))
              (try simp only [Act.put, aZ, bZ, cZ, dZ, eZ, fZ])
              refine wpAnyH_take (i := 8) (v := ?_) rfl (by kernel_rfl) (by kernel_rfl) (by kernel_rfl) (fun _ _ _ h => h) (Or.inl ⟨by rfl, ?_⟩) hS2 ?_
              rotate_left
              · (intro w hSw; (try dsimp only at hSw); go_simp; try (with_reducible rfl))
              (try simp only [Act.put, aZ, bZ, cZ, dZ, eZ, fZ])
              refine wpAnyH_take (i := 9) (v := ?_) rfl (by kernel_rfl) (by kernel_rfl) (by kernel_rfl) (fun _ _ _ h => h) (Or.inl ⟨by rfl, ?_⟩) hS2 ?_
              rotate_left
              · (intro w hSw; (try dsimp only at hSw); go_simp; try (with_reducible rfl))
              (try simp only [Act.put, aZ, bZ, cZ, dZ, eZ, fZ])
              exact st300.out _ _ ⟨gT, aW, cW, w1.heap.size, w2.heap.size, rfl, m1, hS.1.size, hb2.size, (Nat.le_refl _)⟩ hS2
            · go_simp
              have hb2 : Below w1.heap.size w1 (w1.alloc (.cells #[.int .i64 0, .int .i64 0, .int .i64 0, .int .i64 0, .slice none 0 0] 28)) := (Below.refl _ _).alloc (Nat.le_refl _) _
              have n1 : RgAt (w1.alloc (.cells #[.int .i64 0, .int .i64 0, .int .i64 0, .int .i64 0, .slice none 0 0] 28)) w1.heap.size 0 0 0 0 none 0 0 := rg_new w1 0 0 0 0 none 0 0 28
              refine hK.out _ _ (kp_alloc hS _) (fun hS2 => ?_)
              clear hK
              (try simp only [Act.put, aZ, bZ, cZ, dZ, eZ, fZ])
              exact st210.out _ _ ⟨gT, w1.heap.size, rfl, (T1.below hb2), n1, hS.1.size⟩ hS2
            · go_simp
              have hb2 : Below w1.heap.size w1 (w1.alloc (.cells #[.int .i64 0, .int .i64 0, .int .i64 0, .int .i64 0, .int .i64 0, .int .i64 0, .int .i64 0, .int .i64 0, .int .i64 0, .string ⟨#[]⟩, .int .i64 0, .int .i64 0, .int .i64 0] 38)) := (Below.refl _ _).alloc (Nat.le_refl _) _
              have n1 : RowAt (w1.alloc (.cells #[.int .i64 0, .int .i64 0, .int .i64 0, .int .i64 0, .int .i64 0, .int .i64 0, .int .i64 0, .int .i64 0, .int .i64 0, .string ⟨#[]⟩, .int .i64 0, .int .i64 0, .int .i64 0] 38)) w1.heap.size 13 (uq M1.zeroU) := uq_new w1 M1.zeroU 38
              refine hK.out _ _ (kp_alloc hS _) (fun hS2 => ?_)
              clear hK
              (try simp only [Act.put, aZ, bZ, cZ, dZ, eZ, fZ])
              exact st201.out _ _ ⟨gT, w1.heap.size, rfl, (T1.below hb2), n1, hS.1.size⟩ hS2
          refine have_state 11 #[true, false, true, false, true, false, false, false, false, false, false, true, false, false, false] (fun act w1 => ∃ (qB : Nat), act = (⟨#[.agg #[.int .i64 id, .int .i64 a, .int .i64 b, .int .i64 c, .slice av n cn], .agg #[.int .i64 ok, .int .i64 ot, .int .i64 oa, .int .i64 ob, .string os, .int .i64 oc, .int .i64 oe], .int .i64 now, .pointer (some ⟨gA, 0, none⟩), .pointer (some ⟨gE, 0, none⟩), undef, u6, .int .i64 (r - (os.size : Int)), undef, .pointer (some ⟨qB, 0, none⟩), undef, undef, undef, undef, undef, undef, undef, undef, undef, undef, undef, u21, u22, u23, u24, u25, u26, u27, u28, u29, u30, u31, .agg #[.int .i64 id, .int .i64 a, .int .i64 b, .int .i64 c, .slice av n cn], u33, .agg #[.int .i64 ok, .int .i64 ot, .int .i64 oa, .int .i64 ob, .string os, .int .i64 oc, .int .i64 oe], u35, .int .i64 now, u37, u38, u39, u40, u41, u42, u43, u44, u45, u46, u47, u48, u49, u50, u51, u52, u53, u54, u55, u56, u57, u58, u59, u60, u61, u62, u63, u64, u65, u66, u67, u68, u69, u70, u71, u72, u73, u74, u75, u76, u77, u78, u79, u80, u81, u82, u83, u84, u85, u86, u87, u88, u89, u90, u91, u92, u93, u94, u95, u96, u97, u98, u99, u100, u101, u102, u103, u104, u105, u106, u107, u108, u109, u110, u111, u112, u113, u114, u115, u116, u117, u118, u119, u120, u121, u122, u123, u124, u125, u126, u127, u128, u129, u130, u131, u132, u133, u134, u135, u136, u137], []⟩ : Act) ∧ RowAt w1 qB 13 (uq M1.zeroU) ∧ w3.heap.size ≤ qB) ?_ (fun st001 => ?_)
          · rintro act w1 ⟨qB, rfl, r1, r2⟩ hS
            refine wpAnyH_ready (rs := [1, 10]) (by kernel_rfl) (by simp) ?_
            refine (AllReadyH.cons (o := _) rfl (fun K hK => ?_) (AllReadyH.cons (o := _) rfl (fun K hK => ?_) AllReadyH.nil))
            · go_simp
              refine (toRegion_any id a b c _ _ _ _ _ ((h1.below B3).below hS.1) hn').mono ?_
              rintro e w2 ⟨gT, rfl, hgT, T2, hb2⟩
              go_wp2_with fail
              refine hK.out _ _ (kp_step hS hb2) (fun hS2 => ?_)
              clear hK
              (try simp only [Act.put, aZ, bZ, cZ, dZ, eZ, fZ])
              exact st101.out _ _ ⟨gT, qB, rfl, T2, (RowAt.below r1 hb2), r2⟩ hS2
            · go_simp
              have hb2 : Below w1.heap.size w1 (w1.alloc (.cells #[.int .i64 0, .int .i64 0, .int .i64 0, .int .i64 0, .slice none 0 0] 28)) := (Below.refl _ _).alloc (Nat.le_refl _) _
              have n1 : RgAt (w1.alloc (.cells #[.int .i64 0, .int .i64 0, .int .i64 0, .int .i64 0, .slice none 0 0] 28)) w1.heap.size 0 0 0 0 none 0 0 := rg_new w1 0 0 0 0 none 0 0 28
              refine hK.out _ _ (kp_alloc hS _) (fun hS2 => ?_)
              clear hK
              (try simp only [Act.put, aZ, bZ, cZ, dZ, eZ, fZ])
              exact st011.out _ _ ⟨w1.heap.size, qB, rfl, n1, hS.1.size, (RowAt.below r1 hb2), r2, (by have := r1.lt; omega)⟩ hS2
          refine have_state 11 #[true, false, true, false, true, false, false, false, false, false, true, false, false, false, false] (fun act w1 => ∃ (qA : Nat), act = (⟨#[.agg #[.int .i64 id, .int .i64 a, .int .i64 b, .int .i64 c, .slice av n cn], .agg #[.int .i64 ok, .int .i64 ot, .int .i64 oa, .int .i64 ob, .string os, .int .i64 oc, .int .i64 oe], .int .i64 now, .pointer (some ⟨gA, 0, none⟩), .pointer (some ⟨gE, 0, none⟩), undef, u6, .int .i64 (r - (os.size : Int)), .pointer (some ⟨qA, 0, none⟩), undef, undef, undef, undef, undef, undef, undef, undef, undef, undef, undef, undef, u21, u22, u23, u24, u25, u26, u27, u28, u29, u30, u31, .agg #[.int .i64 id, .int .i64 a, .int .i64 b, .int .i64 c, .slice av n cn], u33, .agg #[.int .i64 ok, .int .i64 ot, .int .i64 oa, .int .i64 ob, .string os, .int .i64 oc, .int .i64 oe], u35, .int .i64 now, u37, u38, u39, u40, u41, u42, u43, u44, u45, u46, u47, u48, u49, u50, u51, u52, u53, u54, u55, u56, u57, u58, u59, u60, u61, u62, u63, u64, u65, u66, u67, u68, u69, u70, u71, u72, u73, u74, u75, u76, u77, u78, u79, u80, u81, u82, u83, u84, u85, u86, u87, u88, u89, u90, u91, u92, u93, u94, u95, u96, u97, u98, u99, u100, u101, u102, u103, u104, u105, u106, u107, u108, u109, u110, u111, u112, u113, u114, u115, u116, u117, u118, u119, u120, u121, u122, u123, u124, u125, u126, u127, u128, u129, u130, u131, u132, u133, u134, u135, u136, u137], []⟩ : Act) ∧ RgAt w1 qA 0 0 0 0 none 0 0 ∧ w3.heap.size ≤ qA) ?_ (fun st010 => ?_)
          · rintro act w1 ⟨qA, rfl, p1, p2⟩ hS
            refine wpAnyH_ready (rs := [1, 11]) (by kernel_rfl) (by simp) ?_
            refine (AllReadyH.cons (o := _) rfl (fun K hK => ?_) (AllReadyH.cons (o := _) rfl (fun K hK => ?_) AllReadyH.nil))
            · go_simp
              refine (toRegion_any id a b c _ _ _ _ _ ((h1.below B3).below hS.1) hn').mono ?_
              rintro e w2 ⟨gT, rfl, hgT, T2, hb2⟩
              go_wp2_with fail
              refine hK.out _ _ (kp_step hS hb2) (fun hS2 => ?_)
              clear hK
              (try simp only [Act.put, aZ, bZ, cZ, dZ, eZ, fZ])
              exact st110.out _ _ ⟨gT, qA, rfl, T2, (RowAt.below p1 hb2), p2⟩ hS2
            · go_simp
              have hb2 : Below w1.heap.size w1 (w1.alloc (.cells #[.int .i64 0, .int .i64 0, .int .i64 0, .int .i64 0, .int .i64 0, .int .i64 0, .int .i64 0, .int .i64 0, .int .i64 0, .string ⟨#[]⟩, .int .i64 0, .int .i64 0, .int .i64 0] 38)) := (Below.refl _ _).alloc (Nat.le_refl _) _
              have n1 : RowAt (w1.alloc (.cells #[.int .i64 0, .int .i64 0, .int .i64 0, .int .i64 0, .int .i64 0, .int .i64 0, .int .i64 0, .int .i64 0, .int .i64 0, .string ⟨#[]⟩, .int .i64 0, .int .i64 0, .int .i64 0] 38)) w1.heap.size 13 (uq M1.zeroU) := uq_new w1 M1.zeroU 38
              refine hK.out _ _ (kp_alloc hS _) (fun hS2 => ?_)
              clear hK
              (try simp only [Act.put, aZ, bZ, cZ, dZ, eZ, fZ])
              exact st011.out _ _ ⟨qA, w1.heap.size, rfl, (RowAt.below p1 hb2), p2, n1, hS.1.size, (by have := p1.lt; omega)⟩ hS2
          refine have_state 11 #[true, true, true, false, true, false, false, false, false, false, false, false, false, false, false] (fun act w1 => ∃ (gT : Nat), act = (⟨#[.agg #[.int .i64 id, .int .i64 a, .int .i64 b, .int .i64 c, .slice av n cn], .agg #[.int .i64 ok, .int .i64 ot, .int .i64 oa, .int .i64 ob, .string os, .int .i64 oc, .int .i64 oe], .int .i64 now, .pointer (some ⟨gA, 0, none⟩), .pointer (some ⟨gE, 0, none⟩), undef, u6, .int .i64 (r - (os.size : Int)), undef, undef, undef, undef, undef, undef, undef, undef, undef, undef, undef, undef, undef, u21, u22, u23, u24, u25, u26, u27, u28, u29, u30, u31, .agg #[.int .i64 id, .int .i64 a, .int .i64 b, .int .i64 c, .slice av n cn], .agg #[.int .i64 id, .int .i64 a, .int .i64 b, .int .i64 c, .slice (some ⟨gT, 0, none⟩) n n], .agg #[.int .i64 ok, .int .i64 ot, .int .i64 oa, .int .i64 ob, .string os, .int .i64 oc, .int .i64 oe], u35, .int .i64 now, u37, u38, u39, u40, u41, u42, u43, u44, u45, u46, u47, u48, u49, u50, u51, u52, u53, u54, u55, u56, u57, u58, u59, u60, u61, u62, u63, u64, u65, u66, u67, u68, u69, u70, u71, u72, u73, u74, u75, u76, u77, u78, u79, u80, u81, u82, u83, u84, u85, u86, u87, u88, u89, u90, u91, u92, u93, u94, u95, u96, u97, u98, u99, u100, u101, u102, u103, u104, u105, u106, u107, u108, u109, u110, u111, u112, u113, u114, u115, u116, u117, u118, u119, u120, u121, u122, u123, u124, u125, u126, u127, u128, u129, u130, u131, u132, u133, u134, u135, u136, u137], []⟩ : Act) ∧ RowAt w1 gT (n * 13) (ucell us)) ?_ (fun st100 => ?_)
          · rintro act w1 ⟨gT, rfl, T1⟩ hS
            refine wpAnyH_ready (rs := [3, 10, 11]) (by kernel_rfl) (by simp) ?_
            refine (AllReadyH.cons (o := _) rfl (fun K hK => ?_) (AllReadyH.cons (o := _) rfl (fun K hK => ?_) (AllReadyH.cons (o := _) rfl (fun K hK => ?_) AllReadyH.nil)))
            · go_simp
              refine (toOp_any ok ot oa ob oc oe os _).mono ?_
              rintro e w2 ⟨rfl, hb2⟩
              go_wp2_with fail
              refine hK.out _ _ (kp_step hS hb2) (fun hS2 => ?_)
              clear hK
              (try simp only [Act.put, aZ, bZ, cZ, dZ, eZ, fZ])
              exact st200.out _ _ ⟨gT, rfl, (T1.below hb2)⟩ hS2
            · go_simp
              have hb2 : Below w1.heap.size w1 (w1.alloc (.cells #[.int .i64 0, .int .i64 0, .int .i64 0, .int .i64 0, .slice none 0 0] 28)) := (Below.refl _ _).alloc (Nat.le_refl _) _
              have n1 : RgAt (w1.alloc (.cells #[.int .i64 0, .int .i64 0, .int .i64 0, .int .i64 0, .slice none 0 0] 28)) w1.heap.size 0 0 0 0 none 0 0 := rg_new w1 0 0 0 0 none 0 0 28
              refine hK.out _ _ (kp_alloc hS _) (fun hS2 => ?_)
              clear hK
              (try simp only [Act.put, aZ, bZ, cZ, dZ, eZ, fZ])
              exact st110.out _ _ ⟨gT, w1.heap.size, rfl, (T1.below hb2), n1, hS.1.size⟩ hS2
            · go_simp
              have hb2 : Below w1.heap.size w1 (w1.alloc (.cells #[.int .i64 0, .int .i64 0, .int .i64 0, .int .i64 0, .int .i64 0, .int .i64 0, .int .i64 0, .int .i64 0, .int .i64 0, .string ⟨#[]⟩, .int .i64 0, .int .i64 0, .int .i64 0] 38)) := (Below.refl _ _).alloc (Nat.le_refl _) _
              have n1 : RowAt (w1.alloc (.cells #[.int .i64 0, .int .i64 0, .int .i64 0, .int .i64 0, .int .i64 0, .int .i64 0, .int .i64 0, .int .i64 0, .int .i64 0, .string ⟨#[]⟩, .int .i64 0, .int .i64 0, .int .i64 0] 38)) w1.heap.size 13 (uq M1.zeroU) := uq_new w1 M1.zeroU 38
              refine hK.out _ _ (kp_alloc hS _) (fun hS2 => ?_)
              clear hK
              (try simp only [Act.put, aZ, bZ, cZ, dZ, eZ, fZ])
              exact st101.out _ _ ⟨gT, w1.heap.size, rfl, (T1.below hb2), n1, hS.1.size⟩ hS2
          refine have_state 12 #[true, false, true, false, true, false, false, false, false, false, false, false, false, false, false] (fun act w1 => act = (⟨#[.agg #[.int .i64 id, .int .i64 a, .int .i64 b, .int .i64 c, .slice av n cn], .agg #[.int .i64 ok, .int .i64 ot, .int .i64 oa, .int .i64 ob, .string os, .int .i64 oc, .int .i64 oe], .int .i64 now, .pointer (some ⟨gA, 0, none⟩), .pointer (some ⟨gE, 0, none⟩), undef, u6, .int .i64 (r - (os.size : Int)), undef, undef, undef, undef, undef, undef, undef, undef, undef, undef, undef, undef, undef, u21, u22, u23, u24, u25, u26, u27, u28, u29, u30, u31, .agg #[.int .i64 id, .int .i64 a, .int .i64 b, .int .i64 c, .slice av n cn], u33, .agg #[.int .i64 ok, .int .i64 ot, .int .i64 oa, .int .i64 ob, .string os, .int .i64 oc, .int .i64 oe], u35, .int .i64 now, u37, u38, u39, u40, u41, u42, u43, u44, u45, u46, u47, u48, u49, u50, u51, u52, u53, u54, u55, u56, u57, u58, u59, u60, u61, u62, u63, u64, u65, u66, u67, u68, u69, u70, u71, u72, u73, u74, u75, u76, u77, u78, u79, u80, u81, u82, u83, u84, u85, u86, u87, u88, u89, u90, u91, u92, u93, u94, u95, u96, u97, u98, u99, u100, u101, u102, u103, u104, u105, u106, u107, u108, u109, u110, u111, u112, u113, u114, u115, u116, u117, u118, u119, u120, u121, u122, u123, u124, u125, u126, u127, u128, u129, u130, u131, u132, u133, u134, u135, u136, u137], []⟩ : Act)) ?_ (fun st000 => ?_)
          · rintro act w1 rfl hS
            refine wpAnyH_ready (rs := [1, 10, 11]) (by kernel_rfl) (by simp) ?_
            refine (AllReadyH.cons (o := _) rfl (fun K hK => ?_) (AllReadyH.cons (o := _) rfl (fun K hK => ?_) (AllReadyH.cons (o := _) rfl (fun K hK => ?_) AllReadyH.nil)))
            · go_simp
              refine (toRegion_any id a b c _ _ _ _ _ ((h1.below B3).below hS.1) hn').mono ?_
              rintro e w2 ⟨gT, rfl, hgT, T2, hb2⟩
              go_wp2_with fail
              refine hK.out _ _ (kp_step hS hb2) (fun hS2 => ?_)
              clear hK
              (try simp only [Act.put, aZ, bZ, cZ, dZ, eZ, fZ])
              exact st100.out _ _ ⟨gT, rfl, T2⟩ hS2
            · go_simp
              have hb2 : Below w1.heap.size w1 (w1.alloc (.cells #[.int .i64 0, .int .i64 0, .int .i64 0, .int .i64 0, .slice none 0 0] 28)) := (Below.refl _ _).alloc (Nat.le_refl _) _
              have n1 : RgAt (w1.alloc (.cells #[.int .i64 0, .int .i64 0, .int .i64 0, .int .i64 0, .slice none 0 0] 28)) w1.heap.size 0 0 0 0 none 0 0 := rg_new w1 0 0 0 0 none 0 0 28
              refine hK.out _ _ (kp_alloc hS _) (fun hS2 => ?_)
              clear hK
              (try simp only [Act.put, aZ, bZ, cZ, dZ, eZ, fZ])
              exact st010.out _ _ ⟨w1.heap.size, rfl, n1, hS.1.size⟩ hS2
            · go_simp
              have hb2 : Below w1.heap.size w1 (w1.alloc (.cells #[.int .i64 0, .int .i64 0, .int .i64 0, .int .i64 0, .int .i64 0, .int .i64 0, .int .i64 0, .int .i64 0, .int .i64 0, .string ⟨#[]⟩, .int .i64 0, .int .i64 0, .int .i64 0] 38)) := (Below.refl _ _).alloc (Nat.le_refl _) _
              have n1 : RowAt (w1.alloc (.cells #[.int .i64 0, .int .i64 0, .int .i64 0, .int .i64 0, .int .i64 0, .int .i64 0, .int .i64 0, .int .i64 0, .int .i64 0, .string ⟨#[]⟩, .int .i64 0, .int .i64 0, .int .i64 0] 38)) w1.heap.size 13 (uq M1.zeroU) := uq_new w1 M1.zeroU 38
              refine hK.out _ _ (kp_alloc hS _) (fun hS2 => ?_)
              clear hK
              (try simp only [Act.put, aZ, bZ, cZ, dZ, eZ, fZ])
              exact st001.out _ _ ⟨w1.heap.size, rfl, n1, hS.1.size⟩ hS2
          refine wpAnyH_take (i := 0) (v := ?_) rfl (by kernel_rfl) (by kernel_rfl) (by kernel_rfl) (fun _ _ _ h => h) (Or.inl ⟨by rfl, ?_⟩) hHeld ?_
          rotate_left
          · (intro w hSw; (try dsimp only at hSw); go_simp; try (with_reducible rfl))
          (try simp only [Act.put, aZ, bZ, cZ, dZ, eZ, fZ])
          refine wpAnyH_take (i := 2) (v := ?_) rfl (by kernel_rfl) (by kernel_rfl) (by kernel_rfl) (fun _ _ _ h => h) (Or.inl ⟨by rfl, ?_⟩) hHeld ?_
          rotate_left
          · (intro w hSw; (try dsimp only at hSw); go_simp; try (with_reducible rfl))
          (try simp only [Act.put, aZ, bZ, cZ, dZ, eZ, fZ])
          refine wpAnyH_take (i := 4) (v := ?_) rfl (by kernel_rfl) (by kernel_rfl) (by kernel_rfl) (fun _ _ _ h => h) (Or.inl ⟨by rfl, ?_⟩) hHeld ?_
          rotate_left
          · (intro w hSw; (try dsimp only at hSw); go_simp; try (with_reducible rfl))
          (try simp only [Act.put, aZ, bZ, cZ, dZ, eZ, fZ])
          exact st000.out _ _ rfl hHeld
        case rest =>
          obtain ⟨gW, gVW, loW, hiW, aW, cW, rfl, rfl, rfl, hl1W, hl2W, hl3W, hl4W, hl5W, hl6W, hl7W, hneW, W4, VW4, MW4, hb4⟩ := hcut
          obtain ⟨w4, hw4⟩ : ∃ v, v = wc := ⟨_, rfl⟩
          rw [← hw4] at hl3W W4 VW4 MW4 hb4 ⊢
          clear hw4
          have B4 := B3.trans (hb4.mono B3.size)
          have hs4 := hb4.size
          have hltgW := W4.lt
          have hltgVW := VW4.lt
          clear e0 e1 e2 e3 e4 e5 e6 el
          clear d0 d1 d2 d3 d4 dl
          have A4 : RgAt w4 gA id a b c av n cn := A3.below hb4
          have E4 : OpAt w4 gE ⟨ok, ot, oa, ob, os, oc, oe⟩ := RowAt.below E3 hb4
          clear A3 E3
          obtain ⟨d0, d1, d2, d3, d4⟩ := A4.cells
          have dl := A4.lt
          go_wp2_with fail
          refine (toRegion_any id a b c _ _ _ _ _ (h1.below B4) hn').mono ?_
          rintro e w5 ⟨gX, rfl, hggX, X5, hb5⟩
          have B5 := B4.trans (hb5.mono B4.size)
          have hs5 := hb5.size
          have hlgX := X5.lt
          have A5 : RgAt w5 gA id a b c av n cn := A4.below hb5
          have E5 : OpAt w5 gE ⟨ok, ot, oa, ob, os, oc, oe⟩ := RowAt.below E4 hb5
          have W5 : RgAt w5 gW t.id t.a t.b t.c aW q cW := W4.below hb5
          have VW5 : RowAt w5 gVW 13 (uq u) := RowAt.below VW4 hb5
          have MW5 : MU w5 aW q cW loW hiW (ucell t.us) := MW4.below hb5
          clear A4 E4 W4 VW4 MW4
          clear d0 d1 d2 d3 d4 dl
          have hb6 : Below w5.heap.size w5 (w5.alloc (.cells #[.int .i64 id, .int .i64 a, .int .i64 b, .int .i64 c, .slice (some ⟨gX, 0, none⟩) n n] 28)) := (Below.refl _ _).alloc (Nat.le_refl _) _
          have Y6 := rg_new w5 id a b c (some ⟨gX, 0, none⟩) n n 28
          go_upto_region 10 with fail
          obtain ⟨w6, hw6⟩ : ∃ W, w5.alloc (.cells #[.int .i64 id, .int .i64 a, .int .i64 b, .int .i64 c, .slice (some ⟨gX, 0, none⟩) n n] 28) = W := ⟨_, rfl⟩
          rw [hw6] at hb6 Y6 ⊢
          clear hw6
          have B6 := B5.trans (hb6.mono B5.size)
          have hs6 := hb6.size
          obtain ⟨gY, hgY⟩ : ∃ g, Hid (w5.heap.size = g) := ⟨_, rfl⟩
          have hlogY : w5.heap.size ≤ gY := by have := hgY.out; omega
          rw [hgY.out] at Y6 ⊢
          have hltgY := Y6.lt
          have A6 : RgAt w6 gA id a b c av n cn := A5.below hb6
          have E6 : OpAt w6 gE ⟨ok, ot, oa, ob, os, oc, oe⟩ := RowAt.below E5 hb6
          have W6 : RgAt w6 gW t.id t.a t.b t.c aW q cW := W5.below hb6
          have VW6 : RowAt w6 gVW 13 (uq u) := RowAt.below VW5 hb6
          have MW6 : MU w6 aW q cW loW hiW (ucell t.us) := MW5.below hb6
          have X6 : RowAt w6 gX (n * 13) (ucell us) := RowAt.below X5 hb6
          clear A5 E5 W5 VW5 MW5 X5
          go_upto_region 10 with fail
          obtain ⟨d0, d1, d2, d3, d4⟩ := Y6.cells
          have dl := Y6.lt
          obtain ⟨e0, e1, e2, e3, e4, e5, e6⟩ := OpAt.cells E6
          have el := E6.lt
          go_cut [12, 13, 14] (fun v1 v2 v3 wc => ∃ (gG gVG loG hiG : Nat) (aG : Option Addr) (cG : Nat), v1 = .pointer (some ⟨gG, 0, none⟩) ∧ v2 = .pointer (some ⟨gVG, 0, none⟩) ∧ v3 = .int .i64 kc ∧ w6.heap.size ≤ loG ∧ loG ≤ hiG ∧ hiG ≤ wc.heap.size ∧ w6.heap.size ≤ gG ∧ w6.heap.size ≤ gVG ∧ (gG < loG ∨ hiG ≤ gG) ∧ (gVG < loG ∨ hiG ≤ gVG) ∧ ¬ gG = gVG ∧ RgAt wc gG t.id t.a t.b t.c aG q cG ∧ RowAt wc gVG 13 (uq u) ∧ MU wc aG q cG loG hiG (ucell t.us) ∧ Below w6.heap.size w6 wc)
          case first =>
            refine wp_region_held_drew (S := fun w' => Kp w6 w') (by kernel_rfl) ?_ (fun hHeld => ?_)
            · exact kp_zero _
            refine have_state 3 #[true, true, true, true, true, true, true, true, true, true, true, false, false, false] (fun act w1 => ∃ (aG : Option Addr) (cG : Nat) (lo : Nat) (hi : Nat) (qA : Nat) (qB : Nat), act = (⟨#[.agg #[.int .i64 id, .int .i64 a, .int .i64 b, .int .i64 c, .slice av n cn], .agg #[.int .i64 ok, .int .i64 ot, .int .i64 oa, .int .i64 ob, .string os, .int .i64 oc, .int .i64 oe], .int .i64 now, .pointer (some ⟨gA, 0, none⟩), .pointer (some ⟨gE, 0, none⟩), undef, u6, .int .i64 (r - (os.size : Int)), .pointer (some ⟨gW, 0, none⟩), .pointer (some ⟨gVW, 0, none⟩), .int .i64 kc, .pointer (some ⟨gY, 0, none⟩), .pointer (some ⟨qA, 0, none⟩), .pointer (some ⟨qB, 0, none⟩), undef, undef, undef, undef, undef, undef, undef, u21, u22, u23, u24, u25, u26, u27, u28, u29, u30, u31, u32, u33, u34, u35, u36, u37, u38, u39, u40, .agg #[.int .i64 id, .int .i64 a, .int .i64 b, .int .i64 c, .slice av n cn], .agg #[.int .i64 id, .int .i64 a, .int .i64 b, .int .i64 c, .slice (some ⟨gX, 0, none⟩) n n], .tuple #[.agg #[.int .i64 t.id, .int .i64 t.a, .int .i64 t.b, .int .i64 t.c, .slice aG q cG], .agg #[.int .i64 u.dr, .int .i64 u.dn, .int .i64 u.sw, .int .i64 u.sc, .int .i64 u.sr, .int .i64 u.k, .int .i64 u.tr, .int .i64 u.id, .int .i64 u.pa, .string u.s, .int .i64 u.st, .int .i64 u.en, .int .i64 u.lv], .int .i64 kc], .agg #[.int .i64 id, .int .i64 a, .int .i64 b, .int .i64 c, .slice (some ⟨gX, 0, none⟩) n n], .agg #[.int .i64 ok, .int .i64 ot, .int .i64 oa, .int .i64 ob, .string os, .int .i64 oc, .int .i64 oe], .agg #[.int .i64 ok, .int .i64 ot, .int .i64 oa, .int .i64 ob, .string os, .int .i64 oc, .int .i64 oe], .int .i64 now, .tuple #[.agg #[.int .i64 t.id, .int .i64 t.a, .int .i64 t.b, .int .i64 t.c, .slice aG q cG], .agg #[.int .i64 u.dr, .int .i64 u.dn, .int .i64 u.sw, .int .i64 u.sc, .int .i64 u.sr, .int .i64 u.k, .int .i64 u.tr, .int .i64 u.id, .int .i64 u.pa, .string u.s, .int .i64 u.st, .int .i64 u.en, .int .i64 u.lv], .int .i64 kc], .agg #[.int .i64 t.id, .int .i64 t.a, .int .i64 t.b, .int .i64 t.c, .slice aG q cG], .agg #[.int .i64 u.dr, .int .i64 u.dn, .int .i64 u.sw, .int .i64 u.sc, .int .i64 u.sr, .int .i64 u.k, .int .i64 u.tr, .int .i64 u.id, .int .i64 u.pa, .string u.s, .int .i64 u.st, .int .i64 u.en, .int .i64 u.lv], .int .i64 kc, u52, u53, u54, u55, u56, u57, u58, u59, u60, u61, u62, u63, u64, u65, u66, u67, u68, u69, u70, u71, u72, u73, u74, u75, u76, u77, u78, u79, u80, u81, u82, u83, u84, u85, u86, u87, u88, u89, u90, u91, u92, u93, u94, u95, u96, u97, u98, u99, u100, u101, u102, u103, u104, u105, u106, u107, u108, u109, u110, u111, u112, u113, u114, u115, u116, u117, u118, u119, u120, u121, u122, u123, u124, u125, u126, u127, u128, u129, u130, u131, u132, u133, u134, u135, u136, u137], []⟩ : Act) ∧ MU w1 aG q cG lo hi (ucell t.us) ∧ w6.heap.size ≤ lo ∧ lo ≤ hi ∧ hi ≤ w1.heap.size ∧ RgAt w1 qA 0 0 0 0 none 0 0 ∧ w6.heap.size ≤ qA ∧ (qA < lo ∨ hi ≤ qA) ∧ RowAt w1 qB 13 (uq M1.zeroU) ∧ w6.heap.size ≤ qB ∧ (qB < lo ∨ hi ≤ qB) ∧ ¬ qA = qB) ?_ (fun st211 => ?_)
            · rintro act w1 ⟨aG, cG, lo, hi, qA, qB, rfl, m1, m2, m3, m4, p1, p2, p3, r1, r2, r3, pr⟩ hS
              refine wpAnyH_ready (rs := [11]) (by kernel_rfl) (by simp) ?_
              refine (AllReadyH.cons (o := _) rfl (fun K hK => ?_) AllReadyH.nil)
              · obtain ⟨a0, a1, a2, a3, a4⟩ := p1.cells
                obtain ⟨b0, b1, b2, b3, b4⟩ := p1.frees
                have zl9 := p1.lt
                go_simp
                refine hK.out _ _ (kp_of (bel_put5 hS.1 p2 _ _ _ _ _)) (fun hS2 => ?_)
                clear hK
                (try simp only [Act.put, aZ, bZ, cZ, dZ, eZ, fZ])
                have z4 : RgAt (((((w1.setCell ⟨qA, 0, none⟩ (.int .i64 t.id)).setCell ⟨qA, 1, none⟩ (.int .i64 t.a)).setCell ⟨qA, 2, none⟩ (.int .i64 t.b)).setCell ⟨qA, 3, none⟩ (.int .i64 t.c)).setCell ⟨qA, 4, none⟩ (.slice aG q cG)) qA t.id t.a t.b t.c aG q cG := p1.put t.id t.a t.b t.c aG q cG
                have y4 : RowAt (((((w1.setCell ⟨qA, 0, none⟩ (.int .i64 t.id)).setCell ⟨qA, 1, none⟩ (.int .i64 t.a)).setCell ⟨qA, 2, none⟩ (.int .i64 t.b)).setCell ⟨qA, 3, none⟩ (.int .i64 t.c)).setCell ⟨qA, 4, none⟩ (.slice aG q cG)) qB 13 (uq M1.zeroU) := far5 r1 pr _ _ _ _ _
                have B4 : Below w6.heap.size w6 (((((w1.setCell ⟨qA, 0, none⟩ (.int .i64 t.id)).setCell ⟨qA, 1, none⟩ (.int .i64 t.a)).setCell ⟨qA, 2, none⟩ (.int .i64 t.b)).setCell ⟨qA, 3, none⟩ (.int .i64 t.c)).setCell ⟨qA, 4, none⟩ (.slice aG q cG)) := bel_put5 hS.1 p2 _ _ _ _ _
                have m5 : MU (((((w1.setCell ⟨qA, 0, none⟩ (.int .i64 t.id)).setCell ⟨qA, 1, none⟩ (.int .i64 t.a)).setCell ⟨qA, 2, none⟩ (.int .i64 t.b)).setCell ⟨qA, 3, none⟩ (.int .i64 t.c)).setCell ⟨qA, 4, none⟩ (.slice aG q cG)) aG q cG lo hi (ucell t.us) := mu_set5 m1 (mu_apart m1 p3) _ _ _ _ _
                have s5 : w1.heap.size ≤ (((((w1.setCell ⟨qA, 0, none⟩ (.int .i64 t.id)).setCell ⟨qA, 1, none⟩ (.int .i64 t.a)).setCell ⟨qA, 2, none⟩ (.int .i64 t.b)).setCell ⟨qA, 3, none⟩ (.int .i64 t.c)).setCell ⟨qA, 4, none⟩ (.slice aG q cG)).heap.size := (bel_put5 (Below.refl 0 w1) (Nat.zero_le qA) _ _ _ _ _).size
                clear a0 a1 a2 a3 a4 b0 b1 b2 b3 b4
                obtain ⟨w2, hw2⟩ : ∃ W, (((((w1.setCell ⟨qA, 0, none⟩ (.int .i64 t.id)).setCell ⟨qA, 1, none⟩ (.int .i64 t.a)).setCell ⟨qA, 2, none⟩ (.int .i64 t.b)).setCell ⟨qA, 3, none⟩ (.int .i64 t.c)).setCell ⟨qA, 4, none⟩ (.slice aG q cG)) = W := ⟨_, rfl⟩
                rw [hw2] at hS2 z4 y4 B4 m5 s5 ⊢
                clear hw2
                obtain ⟨ca0, ca1, ca2, ca3, ca4, ca5, ca6, ca7, ca8, ca9, ca10, ca11, ca12⟩ := uq_cells y4
                obtain ⟨fa0, fa1, fa2, fa3, fa4, fa5, fa6, fa7, fa8, fa9, fa10, fa11, fa12⟩ := uq_free y4
                have yl9 := y4.lt
                have hHeld := hS2
                refine wpAnyH_ready (rs := [12]) (by kernel_rfl) (by simp) ?_
                refine AllReadyH.cons (o := _) rfl (fun K hK => ?_) AllReadyH.nil
                go_simp
                skip
                refine hK.out _ _ ?_ (fun hHeld2 => ?_)
                · exact kp_of (bel_put B4 r2 u)
                clear hK K hHeld
                have hHeld := hHeld2
                clear hHeld2
                (try simp only [Act.put, aZ, bZ, cZ, dZ, eZ, fZ])
                refine wpAnyH_take (i := 13) (v := ?_) rfl (by kernel_rfl) (by kernel_rfl) (by kernel_rfl) (fun _ _ _ h => h) (Or.inl ⟨by rfl, ?_⟩) hHeld ?_
                rotate_left
                · (intro w hSw; (try dsimp only at hSw); go_simp; try (with_reducible rfl))
                (try simp only [Act.put, aZ, bZ, cZ, dZ, eZ, fZ])
                refine wpAnyH_done (by kernel_rfl) ?_ _
                have zz : RowAt (((((((((((((w2.setCell ⟨qB, 0, none⟩ (.int .i64 u.dr)).setCell ⟨qB, 1, none⟩ (.int .i64 u.dn)).setCell ⟨qB, 2, none⟩ (.int .i64 u.sw)).setCell ⟨qB, 3, none⟩ (.int .i64 u.sc)).setCell ⟨qB, 4, none⟩ (.int .i64 u.sr)).setCell ⟨qB, 5, none⟩ (.int .i64 u.k)).setCell ⟨qB, 6, none⟩ (.int .i64 u.tr)).setCell ⟨qB, 7, none⟩ (.int .i64 u.id)).setCell ⟨qB, 8, none⟩ (.int .i64 u.pa)).setCell ⟨qB, 9, none⟩ (.string u.s)).setCell ⟨qB, 10, none⟩ (.int .i64 u.st)).setCell ⟨qB, 11, none⟩ (.int .i64 u.en)).setCell ⟨qB, 12, none⟩ (.int .i64 u.lv)) qB 13 (uq u) := uq_put y4 u
                have zr : RgAt (((((((((((((w2.setCell ⟨qB, 0, none⟩ (.int .i64 u.dr)).setCell ⟨qB, 1, none⟩ (.int .i64 u.dn)).setCell ⟨qB, 2, none⟩ (.int .i64 u.sw)).setCell ⟨qB, 3, none⟩ (.int .i64 u.sc)).setCell ⟨qB, 4, none⟩ (.int .i64 u.sr)).setCell ⟨qB, 5, none⟩ (.int .i64 u.k)).setCell ⟨qB, 6, none⟩ (.int .i64 u.tr)).setCell ⟨qB, 7, none⟩ (.int .i64 u.id)).setCell ⟨qB, 8, none⟩ (.int .i64 u.pa)).setCell ⟨qB, 9, none⟩ (.string u.s)).setCell ⟨qB, 10, none⟩ (.int .i64 u.st)).setCell ⟨qB, 11, none⟩ (.int .i64 u.en)).setCell ⟨qB, 12, none⟩ (.int .i64 u.lv)) qA t.id t.a t.b t.c aG q cG := far13 z4 (fun e => pr e.symm) u
                have BB : Below w6.heap.size w6 (((((((((((((w2.setCell ⟨qB, 0, none⟩ (.int .i64 u.dr)).setCell ⟨qB, 1, none⟩ (.int .i64 u.dn)).setCell ⟨qB, 2, none⟩ (.int .i64 u.sw)).setCell ⟨qB, 3, none⟩ (.int .i64 u.sc)).setCell ⟨qB, 4, none⟩ (.int .i64 u.sr)).setCell ⟨qB, 5, none⟩ (.int .i64 u.k)).setCell ⟨qB, 6, none⟩ (.int .i64 u.tr)).setCell ⟨qB, 7, none⟩ (.int .i64 u.id)).setCell ⟨qB, 8, none⟩ (.int .i64 u.pa)).setCell ⟨qB, 9, none⟩ (.string u.s)).setCell ⟨qB, 10, none⟩ (.int .i64 u.st)).setCell ⟨qB, 11, none⟩ (.int .i64 u.en)).setCell ⟨qB, 12, none⟩ (.int .i64 u.lv)) := bel_put B4 r2 u
                have hm : MU (((((((((((((w2.setCell ⟨qB, 0, none⟩ (.int .i64 u.dr)).setCell ⟨qB, 1, none⟩ (.int .i64 u.dn)).setCell ⟨qB, 2, none⟩ (.int .i64 u.sw)).setCell ⟨qB, 3, none⟩ (.int .i64 u.sc)).setCell ⟨qB, 4, none⟩ (.int .i64 u.sr)).setCell ⟨qB, 5, none⟩ (.int .i64 u.k)).setCell ⟨qB, 6, none⟩ (.int .i64 u.tr)).setCell ⟨qB, 7, none⟩ (.int .i64 u.id)).setCell ⟨qB, 8, none⟩ (.int .i64 u.pa)).setCell ⟨qB, 9, none⟩ (.string u.s)).setCell ⟨qB, 10, none⟩ (.int .i64 u.st)).setCell ⟨qB, 11, none⟩ (.int .i64 u.en)).setCell ⟨qB, 12, none⟩ (.int .i64 u.lv)) aG q cG lo hi (ucell t.us) := mu_set13 m5 r3 u
                have s6 : w2.heap.size ≤ (((((((((((((w2.setCell ⟨qB, 0, none⟩ (.int .i64 u.dr)).setCell ⟨qB, 1, none⟩ (.int .i64 u.dn)).setCell ⟨qB, 2, none⟩ (.int .i64 u.sw)).setCell ⟨qB, 3, none⟩ (.int .i64 u.sc)).setCell ⟨qB, 4, none⟩ (.int .i64 u.sr)).setCell ⟨qB, 5, none⟩ (.int .i64 u.k)).setCell ⟨qB, 6, none⟩ (.int .i64 u.tr)).setCell ⟨qB, 7, none⟩ (.int .i64 u.id)).setCell ⟨qB, 8, none⟩ (.int .i64 u.pa)).setCell ⟨qB, 9, none⟩ (.string u.s)).setCell ⟨qB, 10, none⟩ (.int .i64 u.st)).setCell ⟨qB, 11, none⟩ (.int .i64 u.en)).setCell ⟨qB, 12, none⟩ (.int .i64 u.lv)).heap.size := sz13 w2 qB u
                clear hHeld ca0 ca1 ca2 ca3 ca4 ca5 ca6 ca7 ca8 ca9 ca10 ca11 ca12 fa0 fa1 fa2 fa3 fa4 fa5 fa6 fa7 fa8 fa9 fa10 fa11 fa12
                go_wp2_with fail
                go_meet
                exact ⟨qA, qB, lo, hi, aG, cG, rfl, rfl, rfl, m2, m3, by omega, p2, r2, p3, r3, pr, zr, zz, hm, BB⟩
            refine have_state 8 #[true, true, true, true, false, false, false, false, false, true, true, false, false, false] (fun act w1 => ∃ (qA : Nat) (qB : Nat), act = (⟨#[.agg #[.int .i64 id, .int .i64 a, .int .i64 b, .int .i64 c, .slice av n cn], .agg #[.int .i64 ok, .int .i64 ot, .int .i64 oa, .int .i64 ob, .string os, .int .i64 oc, .int .i64 oe], .int .i64 now, .pointer (some ⟨gA, 0, none⟩), .pointer (some ⟨gE, 0, none⟩), undef, u6, .int .i64 (r - (os.size : Int)), .pointer (some ⟨gW, 0, none⟩), .pointer (some ⟨gVW, 0, none⟩), .int .i64 kc, .pointer (some ⟨gY, 0, none⟩), .pointer (some ⟨qA, 0, none⟩), .pointer (some ⟨qB, 0, none⟩), undef, undef, undef, undef, undef, undef, undef, u21, u22, u23, u24, u25, u26, u27, u28, u29, u30, u31, u32, u33, u34, u35, u36, u37, u38, u39, u40, .agg #[.int .i64 id, .int .i64 a, .int .i64 b, .int .i64 c, .slice av n cn], .agg #[.int .i64 id, .int .i64 a, .int .i64 b, .int .i64 c, .slice (some ⟨gX, 0, none⟩) n n], u43, .agg #[.int .i64 id, .int .i64 a, .int .i64 b, .int .i64 c, .slice (some ⟨gX, 0, none⟩) n n], .agg #[.int .i64 ok, .int .i64 ot, .int .i64 oa, .int .i64 ob, .string os, .int .i64 oc, .int .i64 oe], .agg #[.int .i64 ok, .int .i64 ot, .int .i64 oa, .int .i64 ob, .string os, .int .i64 oc, .int .i64 oe], .int .i64 now, u48, u49, u50, u51, u52, u53, u54, u55, u56, u57, u58, u59, u60, u61, u62, u63, u64, u65, u66, u67, u68, u69, u70, u71, u72, u73, u74, u75, u76, u77, u78, u79, u80, u81, u82, u83, u84, u85, u86, u87, u88, u89, u90, u91, u92, u93, u94, u95, u96, u97, u98, u99, u100, u101, u102, u103, u104, u105, u106, u107, u108, u109, u110, u111, u112, u113, u114, u115, u116, u117, u118, u119, u120, u121, u122, u123, u124, u125, u126, u127, u128, u129, u130, u131, u132, u133, u134, u135, u136, u137], []⟩ : Act) ∧ RgAt w1 qA 0 0 0 0 none 0 0 ∧ w6.heap.size ≤ qA ∧ RowAt w1 qB 13 (uq M1.zeroU) ∧ w6.heap.size ≤ qB ∧ ¬ qA = qB) ?_ (fun st111 => ?_)
            · rintro act w1 ⟨qA, qB, rfl, p1, p2, r1, r2, pr⟩ hS
              refine wpAnyH_ready (rs := [4]) (by kernel_rfl) (by simp) ?_
              refine (AllReadyH.cons (o := _) rfl (fun K hK => ?_) AllReadyH.nil)
              · go_simp
                have js := issued_impl s0 s1 s2 s3 s4 ⟨id, a, b, c, us⟩ ⟨ok, ot, oa, ob, os, oc, oe⟩ now _ _ _ _ (S.below (B6.trans (hS.1.mono B6.size))) (isUpds_of_row HL1.out (Nat.le_refl _) (by unfold maxLen; omega) HT1.out (X6.below hS.1)) ho
                unfold IsS RgD at js
                rw [HX.out, HU.out, HK.out, HQ.out] at js
                refine js.mono ?_
                clear js
                rintro e w2 ⟨⟨_, rfl, aG, cG, rfl, m1⟩, hb2⟩
                go_wp2_with fail
                refine hK.out _ _ (kp_step hS hb2) (fun hS2 => ?_)
                clear hK
                (try simp only [Act.put, aZ, bZ, cZ, dZ, eZ, fZ])
                refine wpAnyH_take (i := 5) (v := ?_) rfl (by kernel_rfl) (by kernel_rfl) (by kernel_rfl) (fun _ _ _ h => h) (Or.inl ⟨by rfl, ?_⟩) hS2 ?_
                rotate_left
                · (intro w hSw; (try dsimp only at hSw); go_simp; try (with_reducible rfl))
                (try simp only [Act.put, aZ, bZ, cZ, dZ, eZ, fZ])
                refine wpAnyH_take (i := 6) (v := ?_) rfl (by kernel_rfl) (by kernel_rfl) (by kernel_rfl) (fun _ _ _ h => h) (Or.inl ⟨by rfl, ?_⟩) hS2 ?_
                rotate_left
                · (intro w hSw; (try dsimp only at hSw); go_simp; try (with_reducible rfl))
                (try simp only [Act.put, aZ, bZ, cZ, dZ, eZ, fZ])
                refine wpAnyH_take (i := 7) (v := ?_) rfl (by kernel_rfl) (by kernel_rfl) (by kernel_rfl) (fun _ _ _ h => h) (Or.inl ⟨by rfl, ?_⟩) hS2 ?_
                rotate_left
                · (intro w hSw; (try dsimp only at hSw); go_simp; try (with_reducible rfl))
                (try simp only [Act.put, aZ, bZ, cZ, dZ, eZ, fZ])
                refine wpAnyH_take (i := 8) (v := ?_) rfl (by kernel_rfl) (by kernel_rfl) (by kernel_rfl) (fun _ _ _ h => h) (Or.inl ⟨by rfl, ?_⟩) hS2 ?_
                rotate_left
                · (intro w hSw; (try dsimp only at hSw); go_simp; try (with_reducible rfl))
                (try simp only [Act.put, aZ, bZ, cZ, dZ, eZ, fZ])
                exact st211.out _ _ ⟨aG, cG, w1.heap.size, w2.heap.size, qA, qB, rfl, m1, hS.1.size, hb2.size, (Nat.le_refl _), (RowAt.below p1 hb2), p2, (.inl p1.lt), (RowAt.below r1 hb2), r2, (.inl r1.lt), pr⟩ hS2
            refine have_state 4 #[true, true, true, true, true, true, true, true, true, false, true, false, false, false] (fun act w1 => ∃ (aG : Option Addr) (cG : Nat) (lo : Nat) (hi : Nat) (qB : Nat), act = (⟨#[.agg #[.int .i64 id, .int .i64 a, .int .i64 b, .int .i64 c, .slice av n cn], .agg #[.int .i64 ok, .int .i64 ot, .int .i64 oa, .int .i64 ob, .string os, .int .i64 oc, .int .i64 oe], .int .i64 now, .pointer (some ⟨gA, 0, none⟩), .pointer (some ⟨gE, 0, none⟩), undef, u6, .int .i64 (r - (os.size : Int)), .pointer (some ⟨gW, 0, none⟩), .pointer (some ⟨gVW, 0, none⟩), .int .i64 kc, .pointer (some ⟨gY, 0, none⟩), undef, .pointer (some ⟨qB, 0, none⟩), undef, undef, undef, undef, undef, undef, undef, u21, u22, u23, u24, u25, u26, u27, u28, u29, u30, u31, u32, u33, u34, u35, u36, u37, u38, u39, u40, .agg #[.int .i64 id, .int .i64 a, .int .i64 b, .int .i64 c, .slice av n cn], .agg #[.int .i64 id, .int .i64 a, .int .i64 b, .int .i64 c, .slice (some ⟨gX, 0, none⟩) n n], .tuple #[.agg #[.int .i64 t.id, .int .i64 t.a, .int .i64 t.b, .int .i64 t.c, .slice aG q cG], .agg #[.int .i64 u.dr, .int .i64 u.dn, .int .i64 u.sw, .int .i64 u.sc, .int .i64 u.sr, .int .i64 u.k, .int .i64 u.tr, .int .i64 u.id, .int .i64 u.pa, .string u.s, .int .i64 u.st, .int .i64 u.en, .int .i64 u.lv], .int .i64 kc], .agg #[.int .i64 id, .int .i64 a, .int .i64 b, .int .i64 c, .slice (some ⟨gX, 0, none⟩) n n], .agg #[.int .i64 ok, .int .i64 ot, .int .i64 oa, .int .i64 ob, .string os, .int .i64 oc, .int .i64 oe], .agg #[.int .i64 ok, .int .i64 ot, .int .i64 oa, .int .i64 ob, .string os, .int .i64 oc, .int .i64 oe], .int .i64 now, .tuple #[.agg #[.int .i64 t.id, .int .i64 t.a, .int .i64 t.b, .int .i64 t.c, .slice aG q cG], .agg #[.int .i64 u.dr, .int .i64 u.dn, .int .i64 u.sw, .int .i64 u.sc, .int .i64 u.sr, .int .i64 u.k, .int .i64 u.tr, .int .i64 u.id, .int .i64 u.pa, .string u.s, .int .i64 u.st, .int .i64 u.en, .int .i64 u.lv], .int .i64 kc], .agg #[.int .i64 t.id, .int .i64 t.a, .int .i64 t.b, .int .i64 t.c, .slice aG q cG], .agg #[.int .i64 u.dr, .int .i64 u.dn, .int .i64 u.sw, .int .i64 u.sc, .int .i64 u.sr, .int .i64 u.k, .int .i64 u.tr, .int .i64 u.id, .int .i64 u.pa, .string u.s, .int .i64 u.st, .int .i64 u.en, .int .i64 u.lv], .int .i64 kc, u52, u53, u54, u55, u56, u57, u58, u59, u60, u61, u62, u63, u64, u65, u66, u67, u68, u69, u70, u71, u72, u73, u74, u75, u76, u77, u78, u79, u80, u81, u82, u83, u84, u85, u86, u87, u88, u89, u90, u91, u92, u93, u94, u95, u96, u97, u98, u99, u100, u101, u102, u103, u104, u105, u106, u107, u108, u109, u110, u111, u112, u113, u114, u115, u116, u117, u118, u119, u120, u121, u122, u123, u124, u125, u126, u127, u128, u129, u130, u131, u132, u133, u134, u135, u136, u137], []⟩ : Act) ∧ MU w1 aG q cG lo hi (ucell t.us) ∧ w6.heap.size ≤ lo ∧ lo ≤ hi ∧ hi ≤ w1.heap.size ∧ RowAt w1 qB 13 (uq M1.zeroU) ∧ w6.heap.size ≤ qB ∧ (qB < lo ∨ hi ≤ qB)) ?_ (fun st201 => ?_)
            · rintro act w1 ⟨aG, cG, lo, hi, qB, rfl, m1, m2, m3, m4, r1, r2, r3⟩ hS
              refine wpAnyH_ready (rs := [9]) (by kernel_rfl) (by simp) ?_
              refine (AllReadyH.cons (o := _) rfl (fun K hK => ?_) AllReadyH.nil)
              · go_simp
                have hb2 : Below w1.heap.size w1 (w1.alloc (.cells #[.int .i64 0, .int .i64 0, .int .i64 0, .int .i64 0, .slice none 0 0] 28)) := (Below.refl _ _).alloc (Nat.le_refl _) _
                have n1 : RgAt (w1.alloc (.cells #[.int .i64 0, .int .i64 0, .int .i64 0, .int .i64 0, .slice none 0 0] 28)) w1.heap.size 0 0 0 0 none 0 0 := rg_new w1 0 0 0 0 none 0 0 28
                refine hK.out _ _ (kp_alloc hS _) (fun hS2 => ?_)
                clear hK
                (try simp only [Act.put, aZ, bZ, cZ, dZ, eZ, fZ])
                exact st211.out _ _ ⟨aG, cG, lo, hi, w1.heap.size, qB, rfl, (m1.below hb2), m2, m3, (Nat.le_trans m4 hb2.size), n1, hS.1.size, (.inr m4), (RowAt.below r1 hb2), r2, r3, (by have := r1.lt; omega)⟩ hS2
            refine have_state 4 #[true, true, true, true, true, true, true, true, true, true, false, false, false, false] (fun act w1 => ∃ (aG : Option Addr) (cG : Nat) (lo : Nat) (hi : Nat) (qA : Nat), act = (⟨#[.agg #[.int .i64 id, .int .i64 a, .int .i64 b, .int .i64 c, .slice av n cn], .agg #[.int .i64 ok, .int .i64 ot, .int .i64 oa, .int .i64 ob, .string os, .int .i64 oc, .int .i64 oe], .int .i64 now, .pointer (some ⟨gA, 0, none⟩), .pointer (some ⟨gE, 0, none⟩), undef, u6, .int .i64 (r - (os.size : Int)), .pointer (some ⟨gW, 0, none⟩), .pointer (some ⟨gVW, 0, none⟩), .int .i64 kc, .pointer (some ⟨gY, 0, none⟩), .pointer (some ⟨qA, 0, none⟩), undef, undef, undef, undef, undef, undef, undef, undef, u21, u22, u23, u24, u25, u26, u27, u28, u29, u30, u31, u32, u33, u34, u35, u36, u37, u38, u39, u40, .agg #[.int .i64 id, .int .i64 a, .int .i64 b, .int .i64 c, .slice av n cn], .agg #[.int .i64 id, .int .i64 a, .int .i64 b, .int .i64 c, .slice (some ⟨gX, 0, none⟩) n n], .tuple #[.agg #[.int .i64 t.id, .int .i64 t.a, .int .i64 t.b, .int .i64 t.c, .slice aG q cG], .agg #[.int .i64 u.dr, .int .i64 u.dn, .int .i64 u.sw, .int .i64 u.sc, .int .i64 u.sr, .int .i64 u.k, .int .i64 u.tr, .int .i64 u.id, .int .i64 u.pa, .string u.s, .int .i64 u.st, .int .i64 u.en, .int .i64 u.lv], .int .i64 kc], .agg #[.int .i64 id, .int .i64 a, .int .i64 b, .int .i64 c, .slice (some ⟨gX, 0, none⟩) n n], .agg #[.int .i64 ok, .int .i64 ot, .int .i64 oa, .int .i64 ob, .string os, .int .i64 oc, .int .i64 oe], .agg #[.int .i64 ok, .int .i64 ot, .int .i64 oa, .int .i64 ob, .string os, .int .i64 oc, .int .i64 oe], .int .i64 now, .tuple #[.agg #[.int .i64 t.id, .int .i64 t.a, .int .i64 t.b, .int .i64 t.c, .slice aG q cG], .agg #[.int .i64 u.dr, .int .i64 u.dn, .int .i64 u.sw, .int .i64 u.sc, .int .i64 u.sr, .int .i64 u.k, .int .i64 u.tr, .int .i64 u.id, .int .i64 u.pa, .string u.s, .int .i64 u.st, .int .i64 u.en, .int .i64 u.lv], .int .i64 kc], .agg #[.int .i64 t.id, .int .i64 t.a, .int .i64 t.b, .int .i64 t.c, .slice aG q cG], .agg #[.int .i64 u.dr, .int .i64 u.dn, .int .i64 u.sw, .int .i64 u.sc, .int .i64 u.sr, .int .i64 u.k, .int .i64 u.tr, .int .i64 u.id, .int .i64 u.pa, .string u.s, .int .i64 u.st, .int .i64 u.en, .int .i64 u.lv], .int .i64 kc, u52, u53, u54, u55, u56, u57, u58, u59, u60, u61, u62, u63, u64, u65, u66, u67, u68, u69, u70, u71, u72, u73, u74, u75, u76, u77, u78, u79, u80, u81, u82, u83, u84, u85, u86, u87, u88, u89, u90, u91, u92, u93, u94, u95, u96, u97, u98, u99, u100, u101, u102, u103, u104, u105, u106, u107, u108, u109, u110, u111, u112, u113, u114, u115, u116, u117, u118, u119, u120, u121, u122, u123, u124, u125, u126, u127, u128, u129, u130, u131, u132, u133, u134, u135, u136, u137], []⟩ : Act) ∧ MU w1 aG q cG lo hi (ucell t.us) ∧ w6.heap.size ≤ lo ∧ lo ≤ hi ∧ hi ≤ w1.heap.size ∧ RgAt w1 qA 0 0 0 0 none 0 0 ∧ w6.heap.size ≤ qA ∧ (qA < lo ∨ hi ≤ qA)) ?_ (fun st210 => ?_)
            · rintro act w1 ⟨aG, cG, lo, hi, qA, rfl, m1, m2, m3, m4, p1, p2, p3⟩ hS
              refine wpAnyH_ready (rs := [10]) (by kernel_rfl) (by simp) ?_
              refine (AllReadyH.cons (o := _) rfl (fun K hK => ?_) AllReadyH.nil)
              · go_simp
                have hb2 : Below w1.heap.size w1 (w1.alloc (.cells #[.int .i64 0, .int .i64 0, .int .i64 0, .int .i64 0, .int .i64 0, .int .i64 0, .int .i64 0, .int .i64 0, .int .i64 0, .string ⟨#[]⟩, .int .i64 0, .int .i64 0, .int .i64 0] 38)) := (Below.refl _ _).alloc (Nat.le_refl _) _
                have n1 : RowAt (w1.alloc (.cells #[.int .i64 0, .int .i64 0, .int .i64 0, .int .i64 0, .int .i64 0, .int .i64 0, .int .i64 0, .int .i64 0, .int .i64 0, .string ⟨#[]⟩, .int .i64 0, .int .i64 0, .int .i64 0] 38)) w1.heap.size 13 (uq M1.zeroU) := uq_new w1 M1.zeroU 38
                refine hK.out _ _ (kp_alloc hS _) (fun hS2 => ?_)
                clear hK
                (try simp only [Act.put, aZ, bZ, cZ, dZ, eZ, fZ])
                exact st211.out _ _ ⟨aG, cG, lo, hi, qA, w1.heap.size, rfl, (m1.below hb2), m2, m3, (Nat.le_trans m4 hb2.size), (RowAt.below p1 hb2), p2, p3, n1, hS.1.size, (.inr m4), (by have := p1.lt; omega)⟩ hS2
            refine have_state 9 #[true, true, false, true, false, false, false, false, false, true, true, false, false, false] (fun act w1 => ∃ (qA : Nat) (qB : Nat), act = (⟨#[.agg #[.int .i64 id, .int .i64 a, .int .i64 b, .int .i64 c, .slice av n cn], .agg #[.int .i64 ok, .int .i64 ot, .int .i64 oa, .int .i64 ob, .string os, .int .i64 oc, .int .i64 oe], .int .i64 now, .pointer (some ⟨gA, 0, none⟩), .pointer (some ⟨gE, 0, none⟩), undef, u6, .int .i64 (r - (os.size : Int)), .pointer (some ⟨gW, 0, none⟩), .pointer (some ⟨gVW, 0, none⟩), .int .i64 kc, .pointer (some ⟨gY, 0, none⟩), .pointer (some ⟨qA, 0, none⟩), .pointer (some ⟨qB, 0, none⟩), undef, undef, undef, undef, undef, undef, undef, u21, u22, u23, u24, u25, u26, u27, u28, u29, u30, u31, u32, u33, u34, u35, u36, u37, u38, u39, u40, .agg #[.int .i64 id, .int .i64 a, .int .i64 b, .int .i64 c, .slice av n cn], .agg #[.int .i64 id, .int .i64 a, .int .i64 b, .int .i64 c, .slice (some ⟨gX, 0, none⟩) n n], u43, .agg #[.int .i64 id, .int .i64 a, .int .i64 b, .int .i64 c, .slice (some ⟨gX, 0, none⟩) n n], .agg #[.int .i64 ok, .int .i64 ot, .int .i64 oa, .int .i64 ob, .string os, .int .i64 oc, .int .i64 oe], u46, .int .i64 now, u48, u49, u50, u51, u52, u53, u54, u55, u56, u57, u58, u59, u60, u61, u62, u63, u64, u65, u66, u67, u68, u69, u70, u71, u72, u73, u74, u75, u76, u77, u78, u79, u80, u81, u82, u83, u84, u85, u86, u87, u88, u89, u90, u91, u92, u93, u94, u95, u96, u97, u98, u99, u100, u101, u102, u103, u104, u105, u106, u107, u108, u109, u110, u111, u112, u113, u114, u115, u116, u117, u118, u119, u120, u121, u122, u123, u124, u125, u126, u127, u128, u129, u130, u131, u132, u133, u134, u135, u136, u137], []⟩ : Act) ∧ RgAt w1 qA 0 0 0 0 none 0 0 ∧ w6.heap.size ≤ qA ∧ RowAt w1 qB 13 (uq M1.zeroU) ∧ w6.heap.size ≤ qB ∧ ¬ qA = qB) ?_ (fun st011 => ?_)
            · rintro act w1 ⟨qA, qB, rfl, p1, p2, r1, r2, pr⟩ hS
              refine wpAnyH_ready (rs := [2]) (by kernel_rfl) (by simp) ?_
              refine (AllReadyH.cons (o := _) rfl (fun K hK => ?_) AllReadyH.nil)
              · go_simp
                refine (toOp_any ok ot oa ob oc oe os _).mono ?_
                rintro e w2 ⟨rfl, hb2⟩
                go_wp2_with fail
                refine hK.out _ _ (kp_step hS hb2) (fun hS2 => ?_)
                clear hK
                (try simp only [Act.put, aZ, bZ, cZ, dZ, eZ, fZ])
                exact st111.out _ _ ⟨qA, qB, rfl, (RowAt.below p1 hb2), p2, (RowAt.below r1 hb2), r2, pr⟩ hS2
            refine have_state 9 #[true, true, true, true, false, false, false, false, false, false, true, false, false, false] (fun act w1 => ∃ (qB : Nat), act = (⟨#[.agg #[.int .i64 id, .int .i64 a, .int .i64 b, .int .i64 c, .slice av n cn], .agg #[.int .i64 ok, .int .i64 ot, .int .i64 oa, .int .i64 ob, .string os, .int .i64 oc, .int .i64 oe], .int .i64 now, .pointer (some ⟨gA, 0, none⟩), .pointer (some ⟨gE, 0, none⟩), undef, u6, .int .i64 (r - (os.size : Int)), .pointer (some ⟨gW, 0, none⟩), .pointer (some ⟨gVW, 0, none⟩), .int .i64 kc, .pointer (some ⟨gY, 0, none⟩), undef, .pointer (some ⟨qB, 0, none⟩), undef, undef, undef, undef, undef, undef, undef, u21, u22, u23, u24, u25, u26, u27, u28, u29, u30, u31, u32, u33, u34, u35, u36, u37, u38, u39, u40, .agg #[.int .i64 id, .int .i64 a, .int .i64 b, .int .i64 c, .slice av n cn], .agg #[.int .i64 id, .int .i64 a, .int .i64 b, .int .i64 c, .slice (some ⟨gX, 0, none⟩) n n], u43, .agg #[.int .i64 id, .int .i64 a, .int .i64 b, .int .i64 c, .slice (some ⟨gX, 0, none⟩) n n], .agg #[.int .i64 ok, .int .i64 ot, .int .i64 oa, .int .i64 ob, .string os, .int .i64 oc, .int .i64 oe], .agg #[.int .i64 ok, .int .i64 ot, .int .i64 oa, .int .i64 ob, .string os, .int .i64 oc, .int .i64 oe], .int .i64 now, u48, u49, u50, u51, u52, u53, u54, u55, u56, u57, u58, u59, u60, u61, u62, u63, u64, u65, u66, u67, u68, u69, u70, u71, u72, u73, u74, u75, u76, u77, u78, u79, u80, u81, u82, u83, u84, u85, u86, u87, u88, u89, u90, u91, u92, u93, u94, u95, u96, u97, u98, u99, u100, u101, u102, u103, u104, u105, u106, u107, u108, u109, u110, u111, u112, u113, u114, u115, u116, u117, u118, u119, u120, u121, u122, u123, u124, u125, u126, u127, u128, u129, u130, u131, u132, u133, u134, u135, u136, u137], []⟩ : Act) ∧ RowAt w1 qB 13 (uq M1.zeroU) ∧ w6.heap.size ≤ qB) ?_ (fun st101 => ?_)
            · rintro act w1 ⟨qB, rfl, r1, r2⟩ hS
              refine wpAnyH_ready (rs := [4, 9]) (by kernel_rfl) (by simp) ?_
              refine (AllReadyH.cons (o := _) rfl (fun K hK => ?_) (AllReadyH.cons (o := _) rfl (fun K hK => ?_) AllReadyH.nil))
              · go_simp
                have js := issued_impl s0 s1 s2 s3 s4 ⟨id, a, b, c, us⟩ ⟨ok, ot, oa, ob, os, oc, oe⟩ now _ _ _ _ (S.below (B6.trans (hS.1.mono B6.size))) (isUpds_of_row HL1.out (Nat.le_refl _) (by unfold maxLen; omega) HT1.out (X6.below hS.1)) ho
                unfold IsS RgD at js
                rw [HX.out, HU.out, HK.out, HQ.out] at js
                refine js.mono ?_
                clear js
                rintro e w2 ⟨⟨_, rfl, aG, cG, rfl, m1⟩, hb2⟩
                go_wp2_with fail
                refine hK.out _ _ (kp_step hS hb2) (fun hS2 => ?_)
                clear hK
                (try simp only [Act.put, aZ, bZ, cZ, dZ, eZ, fZ])
                refine wpAnyH_take (i := 5) (v := ?_) rfl (by kernel_rfl) (by kernel_rfl) (by kernel_rfl) (fun _ _ _ h => h) (Or.inl ⟨by rfl, ?_⟩) hS2 ?_
                rotate_left
                · (intro w hSw; (try dsimp only at hSw); go_simp; try (with_reducible rfl))
                (try simp only [Act.put, aZ, bZ, cZ, dZ, eZ, fZ])
                refine wpAnyH_take (i := 6) (v := ?_) rfl (by kernel_rfl) (by kernel_rfl) (by kernel_rfl) (fun _ _ _ h => h) (Or.inl ⟨by rfl, ?_⟩) hS2 ?_
                rotate_left
                · (intro w hSw; (try dsimp only at hSw); go_simp; try (with_reducible rfl))
                (try simp only [Act.put, aZ, bZ, cZ, dZ, eZ, fZ])
                refine wpAnyH_take (i := 7) (v := ?_) rfl (by kernel_rfl) (by kernel_rfl) (by kernel_rfl) (fun _ _ _ h => h) (Or.inl ⟨by rfl, ?_⟩) hS2 ?_
                rotate_left
                · (intro w hSw; (try dsimp only at hSw); go_simp; try (with_reducible rfl))
                (try simp only [Act.put, aZ, bZ, cZ, dZ, eZ, fZ])
                refine wpAnyH_take (i := 8) (v := ?_) rfl (by kernel_rfl) (by kernel_rfl) (by kernel_rfl) (fun _ _ _ h => h) (Or.inl ⟨by rfl, ?_⟩) hS2 ?_
                rotate_left
                · (intro w hSw; (try dsimp only at hSw); go_simp; try (with_reducible rfl))
                (try simp only [Act.put, aZ, bZ, cZ, dZ, eZ, fZ])
                exact st201.out _ _ ⟨aG, cG, w1.heap.size, w2.heap.size, qB, rfl, m1, hS.1.size, hb2.size, (Nat.le_refl _), (RowAt.below r1 hb2), r2, (.inl r1.lt)⟩ hS2
              · go_simp
                have hb2 : Below w1.heap.size w1 (w1.alloc (.cells #[.int .i64 0, .int .i64 0, .int .i64 0, .int .i64 0, .slice none 0 0] 28)) := (Below.refl _ _).alloc (Nat.le_refl _) _
                have n1 : RgAt (w1.alloc (.cells #[.int .i64 0, .int .i64 0, .int .i64 0, .int .i64 0, .slice none 0 0] 28)) w1.heap.size 0 0 0 0 none 0 0 := rg_new w1 0 0 0 0 none 0 0 28
                refine hK.out _ _ (kp_alloc hS _) (fun hS2 => ?_)
                clear hK
                (try simp only [Act.put, aZ, bZ, cZ, dZ, eZ, fZ])
                exact st111.out _ _ ⟨w1.heap.size, qB, rfl, n1, hS.1.size, (RowAt.below r1 hb2), r2, (by have := r1.lt; omega)⟩ hS2
            refine have_state 9 #[true, true, true, true, false, false, false, false, false, true, false, false, false, false] (fun act w1 => ∃ (qA : Nat), act = (⟨#[.agg #[.int .i64 id, .int .i64 a, .int .i64 b, .int .i64 c, .slice av n cn], .agg #[.int .i64 ok, .int .i64 ot, .int .i64 oa, .int .i64 ob, .string os, .int .i64 oc, .int .i64 oe], .int .i64 now, .pointer (some ⟨gA, 0, none⟩), .pointer (some ⟨gE, 0, none⟩), undef, u6, .int .i64 (r - (os.size : Int)), .pointer (some ⟨gW, 0, none⟩), .pointer (some ⟨gVW, 0, none⟩), .int .i64 kc, .pointer (some ⟨gY, 0, none⟩), .pointer (some ⟨qA, 0, none⟩), undef, undef, undef, undef, undef, undef, undef, undef, u21, u22, u23, u24, u25, u26, u27, u28, u29, u30, u31, u32, u33, u34, u35, u36, u37, u38, u39, u40, .agg #[.int .i64 id, .int .i64 a, .int .i64 b, .int .i64 c, .slice av n cn], .agg #[.int .i64 id, .int .i64 a, .int .i64 b, .int .i64 c, .slice (some ⟨gX, 0, none⟩) n n], u43, .agg #[.int .i64 id, .int .i64 a, .int .i64 b, .int .i64 c, .slice (some ⟨gX, 0, none⟩) n n], .agg #[.int .i64 ok, .int .i64 ot, .int .i64 oa, .int .i64 ob, .string os, .int .i64 oc, .int .i64 oe], .agg #[.int .i64 ok, .int .i64 ot, .int .i64 oa, .int .i64 ob, .string os, .int .i64 oc, .int .i64 oe], .int .i64 now, u48, u49, u50, u51, u52, u53, u54, u55, u56, u57, u58, u59, u60, u61, u62, u63, u64, u65, u66, u67, u68, u69, u70, u71, u72, u73, u74, u75, u76, u77, u78, u79, u80, u81, u82, u83, u84, u85, u86, u87, u88, u89, u90, u91, u92, u93, u94, u95, u96, u97, u98, u99, u100, u101, u102, u103, u104, u105, u106, u107, u108, u109, u110, u111, u112, u113, u114, u115, u116, u117, u118, u119, u120, u121, u122, u123, u124, u125, u126, u127, u128, u129, u130, u131, u132, u133, u134, u135, u136, u137], []⟩ : Act) ∧ RgAt w1 qA 0 0 0 0 none 0 0 ∧ w6.heap.size ≤ qA) ?_ (fun st110 => ?_)
            · rintro act w1 ⟨qA, rfl, p1, p2⟩ hS
              refine wpAnyH_ready (rs := [4, 10]) (by kernel_rfl) (by simp) ?_
              refine (AllReadyH.cons (o := _) rfl (fun K hK => ?_) (AllReadyH.cons (o := _) rfl (fun K hK => ?_) AllReadyH.nil))
              · go_simp
                have js := issued_impl s0 s1 s2 s3 s4 ⟨id, a, b, c, us⟩ ⟨ok, ot, oa, ob, os, oc, oe⟩ now _ _ _ _ (S.below (B6.trans (hS.1.mono B6.size))) (isUpds_of_row HL1.out (Nat.le_refl _) (by unfold maxLen; omega) HT1.out (X6.below hS.1)) ho
                unfold IsS RgD at js
                rw [HX.out, HU.out, HK.out, HQ.out] at js
                refine js.mono ?_
                clear js
                rintro e w2 ⟨⟨_, rfl, aG, cG, rfl, m1⟩, hb2⟩
                go_wp2_with fail
                refine hK.out _ _ (kp_step hS hb2) (fun hS2 => ?_)
                clear hK
                (try simp only [Act.put, aZ, bZ, cZ, dZ, eZ, fZ])
                refine wpAnyH_take (i := 5) (v := ?_) rfl (by kernel_rfl) (by kernel_rfl) (by kernel_rfl) (fun _ _ _ h => h) (Or.inl ⟨by rfl, ?_⟩) hS2 ?_
                rotate_left
                · (intro w hSw; (try dsimp only at hSw); go_simp; try (with_reducible rfl))
                (try simp only [Act.put, aZ, bZ, cZ, dZ, eZ, fZ])
                refine wpAnyH_take (i := 6) (v := ?_) rfl (by kernel_rfl) (by kernel_rfl) (by kernel_rfl) (fun _ _ _ h => h) (Or.inl ⟨by rfl, ?_⟩) hS2 ?_
                rotate_left
                · (intro w hSw; (try dsimp only at hSw); go_simp; try (with_reducible rfl))
                (try simp only [Act.put, aZ, bZ, cZ, dZ, eZ, fZ])
                refine wpAnyH_take (i := 7) (v := ?_) rfl (by kernel_rfl) (by kernel_rfl) (by kernel_rfl) (fun _ _ _ h => h) (Or.inl ⟨by rfl, ?_⟩) hS2 ?_
                rotate_left
                · (intro w hSw; (try dsimp only at hSw); go_simp; try (with_reducible rfl))
                (try simp only [Act.put, aZ, bZ, cZ, dZ, eZ, fZ])
                refine wpAnyH_take (i := 8) (v := ?_) rfl (by kernel_rfl) (by kernel_rfl) (by kernel_rfl) (fun _ _ _ h => h) (Or.inl ⟨by rfl, ?_⟩) hS2 ?_
                rotate_left
                · (intro w hSw; (try dsimp only at hSw); go_simp; try (with_reducible rfl))
                (try simp only [Act.put, aZ, bZ, cZ, dZ, eZ, fZ])
                exact st210.out _ _ ⟨aG, cG, w1.heap.size, w2.heap.size, qA, rfl, m1, hS.1.size, hb2.size, (Nat.le_refl _), (RowAt.below p1 hb2), p2, (.inl p1.lt)⟩ hS2
              · go_simp
                have hb2 : Below w1.heap.size w1 (w1.alloc (.cells #[.int .i64 0, .int .i64 0, .int .i64 0, .int .i64 0, .int .i64 0, .int .i64 0, .int .i64 0, .int .i64 0, .int .i64 0, .string ⟨#[]⟩, .int .i64 0, .int .i64 0, .int .i64 0] 38)) := (Below.refl _ _).alloc (Nat.le_refl _) _
                have n1 : RowAt (w1.alloc (.cells #[.int .i64 0, .int .i64 0, .int .i64 0, .int .i64 0, .int .i64 0, .int .i64 0, .int .i64 0, .int .i64 0, .int .i64 0, .string ⟨#[]⟩, .int .i64 0, .int .i64 0, .int .i64 0] 38)) w1.heap.size 13 (uq M1.zeroU) := uq_new w1 M1.zeroU 38
                refine hK.out _ _ (kp_alloc hS _) (fun hS2 => ?_)
                clear hK
                (try simp only [Act.put, aZ, bZ, cZ, dZ, eZ, fZ])
                exact st111.out _ _ ⟨qA, w1.heap.size, rfl, (RowAt.below p1 hb2), p2, n1, hS.1.size, (by have := p1.lt; omega)⟩ hS2
            refine have_state 5 #[true, true, true, true, true, true, true, true, true, false, false, false, false, false] (fun act w1 => ∃ (aG : Option Addr) (cG : Nat) (lo : Nat) (hi : Nat), act = (⟨#[.agg #[.int .i64 id, .int .i64 a, .int .i64 b, .int .i64 c, .slice av n cn], .agg #[.int .i64 ok, .int .i64 ot, .int .i64 oa, .int .i64 ob, .string os, .int .i64 oc, .int .i64 oe], .int .i64 now, .pointer (some ⟨gA, 0, none⟩), .pointer (some ⟨gE, 0, none⟩), undef, u6, .int .i64 (r - (os.size : Int)), .pointer (some ⟨gW, 0, none⟩), .pointer (some ⟨gVW, 0, none⟩), .int .i64 kc, .pointer (some ⟨gY, 0, none⟩), undef, undef, undef, undef, undef, undef, undef, undef, undef, u21, u22, u23, u24, u25, u26, u27, u28, u29, u30, u31, u32, u33, u34, u35, u36, u37, u38, u39, u40, .agg #[.int .i64 id, .int .i64 a, .int .i64 b, .int .i64 c, .slice av n cn], .agg #[.int .i64 id, .int .i64 a, .int .i64 b, .int .i64 c, .slice (some ⟨gX, 0, none⟩) n n], .tuple #[.agg #[.int .i64 t.id, .int .i64 t.a, .int .i64 t.b, .int .i64 t.c, .slice aG q cG], .agg #[.int .i64 u.dr, .int .i64 u.dn, .int .i64 u.sw, .int .i64 u.sc, .int .i64 u.sr, .int .i64 u.k, .int .i64 u.tr, .int .i64 u.id, .int .i64 u.pa, .string u.s, .int .i64 u.st, .int .i64 u.en, .int .i64 u.lv], .int .i64 kc], .agg #[.int .i64 id, .int .i64 a, .int .i64 b, .int .i64 c, .slice (some ⟨gX, 0, none⟩) n n], .agg #[.int .i64 ok, .int .i64 ot, .int .i64 oa, .int .i64 ob, .string os, .int .i64 oc, .int .i64 oe], .agg #[.int .i64 ok, .int .i64 ot, .int .i64 oa, .int .i64 ob, .string os, .int .i64 oc, .int .i64 oe], .int .i64 now, .tuple #[.agg #[.int .i64 t.id, .int .i64 t.a, .int .i64 t.b, .int .i64 t.c, .slice aG q cG], .agg #[.int .i64 u.dr, .int .i64 u.dn, .int .i64 u.sw, .int .i64 u.sc, .int .i64 u.sr, .int .i64 u.k, .int .i64 u.tr, .int .i64 u.id, .int .i64 u.pa, .string u.s, .int .i64 u.st, .int .i64 u.en, .int .i64 u.lv], .int .i64 kc], .agg #[.int .i64 t.id, .int .i64 t.a, .int .i64 t.b, .int .i64 t.c, .slice aG q cG], .agg #[.int .i64 u.dr, .int .i64 u.dn, .int .i64 u.sw, .int .i64 u.sc, .int .i64 u.sr, .int .i64 u.k, .int .i64 u.tr, .int .i64 u.id, .int .i64 u.pa, .string u.s, .int .i64 u.st, .int .i64 u.en, .int .i64 u.lv], .int .i64 kc, u52, u53, u54, u55, u56, u57, u58, u59, u60, u61, u62, u63, u64, u65, u66, u67, u68, u69, u70, u71, u72, u73, u74, u75, u76, u77, u78, u79, u80, u81, u82, u83, u84, u85, u86, u87, u88, u89, u90, u91, u92, u93, u94, u95, u96, u97, u98, u99, u100, u101, u102, u103, u104, u105, u106, u107, u108, u109, u110, u111, u112, u113, u114, u115, u116, u117, u118, u119, u120, u121, u122, u123, u124, u125, u126, u127, u128, u129, u130, u131, u132, u133, u134, u135, u136, u137], []⟩ : Act) ∧ MU w1 aG q cG lo hi (ucell t.us) ∧ w6.heap.size ≤ lo ∧ lo ≤ hi ∧ hi ≤ w1.heap.size) ?_ (fun st200 => ?_)
            · rintro act w1 ⟨aG, cG, lo, hi, rfl, m1, m2, m3, m4⟩ hS
              refine wpAnyH_ready (rs := [9, 10]) (by kernel_rfl) (by simp) ?_
              refine (AllReadyH.cons (o := _) rfl (fun K hK => ?_) (AllReadyH.cons (o := _) rfl (fun K hK => ?_) AllReadyH.nil))
              · go_simp
                have hb2 : Below w1.heap.size w1 (w1.alloc (.cells #[.int .i64 0, .int .i64 0, .int .i64 0, .int .i64 0, .slice none 0 0] 28)) := (Below.refl _ _).alloc (Nat.le_refl _) _
                have n1 : RgAt (w1.alloc (.cells #[.int .i64 0, .int .i64 0, .int .i64 0, .int .i64 0, .slice none 0 0] 28)) w1.heap.size 0 0 0 0 none 0 0 := rg_new w1 0 0 0 0 none 0 0 28
                refine hK.out _ _ (kp_alloc hS _) (fun hS2 => ?_)
                clear hK
                (try simp only [Act.put, aZ, bZ, cZ, dZ, eZ, fZ])
                exact st210.out _ _ ⟨aG, cG, lo, hi, w1.heap.size, rfl, (m1.below hb2), m2, m3, (Nat.le_trans m4 hb2.size), n1, hS.1.size, (.inr m4)⟩ hS2
              · go_simp
                have hb2 : Below w1.heap.size w1 (w1.alloc (.cells #[.int .i64 0, .int .i64 0, .int .i64 0, .int .i64 0, .int .i64 0, .int .i64 0, .int .i64 0, .int .i64 0, .int .i64 0, .string ⟨#[]⟩, .int .i64 0, .int .i64 0, .int .i64 0] 38)) := (Below.refl _ _).alloc (Nat.le_refl _) _
                have n1 : RowAt (w1.alloc (.cells #[.int .i64 0, .int .i64 0, .int .i64 0, .int .i64 0, .int .i64 0, .int .i64 0, .int .i64 0, .int .i64 0, .int .i64 0, .string ⟨#[]⟩, .int .i64 0, .int .i64 0, .int .i64 0] 38)) w1.heap.size 13 (uq M1.zeroU) := uq_new w1 M1.zeroU 38
                refine hK.out _ _ (kp_alloc hS _) (fun hS2 => ?_)
                clear hK
                (try simp only [Act.put, aZ, bZ, cZ, dZ, eZ, fZ])
                exact st201.out _ _ ⟨aG, cG, lo, hi, w1.heap.size, rfl, (m1.below hb2), m2, m3, (Nat.le_trans m4 hb2.size), n1, hS.1.size, (.inr m4)⟩ hS2
            refine have_state 10 #[true, true, false, true, false, false, false, false, false, false, true, false, false, false] (fun act w1 => ∃ (qB : Nat), act = (⟨#[.agg #[.int .i64 id, .int .i64 a, .int .i64 b, .int .i64 c, .slice av n cn], .agg #[.int .i64 ok, .int .i64 ot, .int .i64 oa, .int .i64 ob, .string os, .int .i64 oc, .int .i64 oe], .int .i64 now, .pointer (some ⟨gA, 0, none⟩), .pointer (some ⟨gE, 0, none⟩), undef, u6, .int .i64 (r - (os.size : Int)), .pointer (some ⟨gW, 0, none⟩), .pointer (some ⟨gVW, 0, none⟩), .int .i64 kc, .pointer (some ⟨gY, 0, none⟩), undef, .pointer (some ⟨qB, 0, none⟩), undef, undef, undef, undef, undef, undef, undef, u21, u22, u23, u24, u25, u26, u27, u28, u29, u30, u31, u32, u33, u34, u35, u36, u37, u38, u39, u40, .agg #[.int .i64 id, .int .i64 a, .int .i64 b, .int .i64 c, .slice av n cn], .agg #[.int .i64 id, .int .i64 a, .int .i64 b, .int .i64 c, .slice (some ⟨gX, 0, none⟩) n n], u43, .agg #[.int .i64 id, .int .i64 a, .int .i64 b, .int .i64 c, .slice (some ⟨gX, 0, none⟩) n n], .agg #[.int .i64 ok, .int .i64 ot, .int .i64 oa, .int .i64 ob, .string os, .int .i64 oc, .int .i64 oe], u46, .int .i64 now, u48, u49, u50, u51, u52, u53, u54, u55, u56, u57, u58, u59, u60, u61, u62, u63, u64, u65, u66, u67, u68, u69, u70, u71, u72, u73, u74, u75, u76, u77, u78, u79, u80, u81, u82, u83, u84, u85, u86, u87, u88, u89, u90, u91, u92, u93, u94, u95, u96, u97, u98, u99, u100, u101, u102, u103, u104, u105, u106, u107, u108, u109, u110, u111, u112, u113, u114, u115, u116, u117, u118, u119, u120, u121, u122, u123, u124, u125, u126, u127, u128, u129, u130, u131, u132, u133, u134, u135, u136, u137], []⟩ : Act) ∧ RowAt w1 qB 13 (uq M1.zeroU) ∧ w6.heap.size ≤ qB) ?_ (fun st001 => ?_)
            · rintro act w1 ⟨qB, rfl, r1, r2⟩ hS
              refine wpAnyH_ready (rs := [2, 9]) (by kernel_rfl) (by simp) ?_
              refine (AllReadyH.cons (o := _) rfl (fun K hK => ?_) (AllReadyH.cons (o := _) rfl (fun K hK => ?_) AllReadyH.nil))
              · go_simp
                refine (toOp_any ok ot oa ob oc oe os _).mono ?_
                rintro e w2 ⟨rfl, hb2⟩
                go_wp2_with fail
                refine hK.out _ _ (kp_step hS hb2) (fun hS2 => ?_)
                clear hK
                (try simp only [Act.put, aZ, bZ, cZ, dZ, eZ, fZ])
                exact st101.out _ _ ⟨qB, rfl, (RowAt.below r1 hb2), r2⟩ hS2
              · go_simp
                have hb2 : Below w1.heap.size w1 (w1.alloc (.cells #[.int .i64 0, .int .i64 0, .int .i64 0, .int .i64 0, .slice none 0 0] 28)) := (Below.refl _ _).alloc (Nat.le_refl _) _
                have n1 : RgAt (w1.alloc (.cells #[.int .i64 0, .int .i64 0, .int .i64 0, .int .i64 0, .slice none 0 0] 28)) w1.heap.size 0 0 0 0 none 0 0 := rg_new w1 0 0 0 0 none 0 0 28
                refine hK.out _ _ (kp_alloc hS _) (fun hS2 => ?_)
                clear hK
                (try simp only [Act.put, aZ, bZ, cZ, dZ, eZ, fZ])
                exact st011.out _ _ ⟨w1.heap.size, qB, rfl, n1, hS.1.size, (RowAt.below r1 hb2), r2, (by have := r1.lt; omega)⟩ hS2
            refine have_state 10 #[true, true, false, true, false, false, false, false, false, true, false, false, false, false] (fun act w1 => ∃ (qA : Nat), act = (⟨#[.agg #[.int .i64 id, .int .i64 a, .int .i64 b, .int .i64 c, .slice av n cn], .agg #[.int .i64 ok, .int .i64 ot, .int .i64 oa, .int .i64 ob, .string os, .int .i64 oc, .int .i64 oe], .int .i64 now, .pointer (some ⟨gA, 0, none⟩), .pointer (some ⟨gE, 0, none⟩), undef, u6, .int .i64 (r - (os.size : Int)), .pointer (some ⟨gW, 0, none⟩), .pointer (some ⟨gVW, 0, none⟩), .int .i64 kc, .pointer (some ⟨gY, 0, none⟩), .pointer (some ⟨qA, 0, none⟩), undef, undef, undef, undef, undef, undef, undef, undef, u21, u22, u23, u24, u25, u26, u27, u28, u29, u30, u31, u32, u33, u34, u35, u36, u37, u38, u39, u40, .agg #[.int .i64 id, .int .i64 a, .int .i64 b, .int .i64 c, .slice av n cn], .agg #[.int .i64 id, .int .i64 a, .int .i64 b, .int .i64 c, .slice (some ⟨gX, 0, none⟩) n n], u43, .agg #[.int .i64 id, .int .i64 a, .int .i64 b, .int .i64 c, .slice (some ⟨gX, 0, none⟩) n n], .agg #[.int .i64 ok, .int .i64 ot, .int .i64 oa, .int .i64 ob, .string os, .int .i64 oc, .int .i64 oe], u46, .int .i64 now, u48, u49, u50, u51, u52, u53, u54, u55, u56, u57, u58, u59, u60, u61, u62, u63, u64, u65, u66, u67, u68, u69, u70, u71, u72, u73, u74, u75, u76, u77, u78, u79, u80, u81, u82, u83, u84, u85, u86, u87, u88, u89, u90, u91, u92, u93, u94, u95, u96, u97, u98, u99, u100, u101, u102, u103, u104, u105, u106, u107, u108, u109, u110, u111, u112, u113, u114, u115, u116, u117, u118, u119, u120, u121, u122, u123, u124, u125, u126, u127, u128, u129, u130, u131, u132, u133, u134, u135, u136, u137], []⟩ : Act) ∧ RgAt w1 qA 0 0 0 0 none 0 0 ∧ w6.heap.size ≤ qA) ?_ (fun st010 => ?_)
            · rintro act w1 ⟨qA, rfl, p1, p2⟩ hS
              refine wpAnyH_ready (rs := [2, 10]) (by kernel_rfl) (by simp) ?_
              refine (AllReadyH.cons (o := _) rfl (fun K hK => ?_) (AllReadyH.cons (o := _) rfl (fun K hK => ?_) AllReadyH.nil))
              · go_simp
                refine (toOp_any ok ot oa ob oc oe os _).mono ?_
                rintro e w2 ⟨rfl, hb2⟩
                go_wp2_with fail
                refine hK.out _ _ (kp_step hS hb2) (fun hS2 => ?_)
                clear hK
                (try simp only [Act.put, aZ, bZ, cZ, dZ, eZ, fZ])
                exact st110.out _ _ ⟨qA, rfl, (RowAt.below p1 hb2), p2⟩ hS2
              · go_simp
                have hb2 : Below w1.heap.size w1 (w1.alloc (.cells #[.int .i64 0, .int .i64 0, .int .i64 0, .int .i64 0, .int .i64 0, .int .i64 0, .int .i64 0, .int .i64 0, .int .i64 0, .string ⟨#[]⟩, .int .i64 0, .int .i64 0, .int .i64 0] 38)) := (Below.refl _ _).alloc (Nat.le_refl _) _
                have n1 : RowAt (w1.alloc (.cells #[.int .i64 0, .int .i64 0, .int .i64 0, .int .i64 0, .int .i64 0, .int .i64 0, .int .i64 0, .int .i64 0, .int .i64 0, .string ⟨#[]⟩, .int .i64 0, .int .i64 0, .int .i64 0] 38)) w1.heap.size 13 (uq M1.zeroU) := uq_new w1 M1.zeroU 38
                refine hK.out _ _ (kp_alloc hS _) (fun hS2 => ?_)
                clear hK
                (try simp only [Act.put, aZ, bZ, cZ, dZ, eZ, fZ])
                exact st011.out _ _ ⟨qA, w1.heap.size, rfl, (RowAt.below p1 hb2), p2, n1, hS.1.size, (by have := p1.lt; omega)⟩ hS2
            refine have_state 10 #[true, true, true, true, false, false, false, false, false, false, false, false, false, false] (fun act w1 => act = (⟨#[.agg #[.int .i64 id, .int .i64 a, .int .i64 b, .int .i64 c, .slice av n cn], .agg #[.int .i64 ok, .int .i64 ot, .int .i64 oa, .int .i64 ob, .string os, .int .i64 oc, .int .i64 oe], .int .i64 now, .pointer (some ⟨gA, 0, none⟩), .pointer (some ⟨gE, 0, none⟩), undef, u6, .int .i64 (r - (os.size : Int)), .pointer (some ⟨gW, 0, none⟩), .pointer (some ⟨gVW, 0, none⟩), .int .i64 kc, .pointer (some ⟨gY, 0, none⟩), undef, undef, undef, undef, undef, undef, undef, undef, undef, u21, u22, u23, u24, u25, u26, u27, u28, u29, u30, u31, u32, u33, u34, u35, u36, u37, u38, u39, u40, .agg #[.int .i64 id, .int .i64 a, .int .i64 b, .int .i64 c, .slice av n cn], .agg #[.int .i64 id, .int .i64 a, .int .i64 b, .int .i64 c, .slice (some ⟨gX, 0, none⟩) n n], u43, .agg #[.int .i64 id, .int .i64 a, .int .i64 b, .int .i64 c, .slice (some ⟨gX, 0, none⟩) n n], .agg #[.int .i64 ok, .int .i64 ot, .int .i64 oa, .int .i64 ob, .string os, .int .i64 oc, .int .i64 oe], .agg #[.int .i64 ok, .int .i64 ot, .int .i64 oa, .int .i64 ob, .string os, .int .i64 oc, .int .i64 oe], .int .i64 now, u48, u49, u50, u51, u52, u53, u54, u55, u56, u57, u58, u59, u60, u61, u62, u63, u64, u65, u66, u67, u68, u69, u70, u71, u72, u73, u74, u75, u76, u77, u78, u79, u80, u81, u82, u83, u84, u85, u86, u87, u88, u89, u90, u91, u92, u93, u94, u95, u96, u97, u98, u99, u100, u101, u102, u103, u104, u105, u106, u107, u108, u109, u110, u111, u112, u113, u114, u115, u116, u117, u118, u119, u120, u121, u122, u123, u124, u125, u126, u127, u128, u129, u130, u131, u132, u133, u134, u135, u136, u137], []⟩ : Act)) ?_ (fun st100 => ?_)
            · rintro act w1 rfl hS
              refine wpAnyH_ready (rs := [4, 9, 10]) (by kernel_rfl) (by simp) ?_
              refine (AllReadyH.cons (o := _) rfl (fun K hK => ?_) (AllReadyH.cons (o := _) rfl (fun K hK => ?_) (AllReadyH.cons (o := _) rfl (fun K hK => ?_) AllReadyH.nil)))
              · go_simp
                have js := issued_impl s0 s1 s2 s3 s4 ⟨id, a, b, c, us⟩ ⟨ok, ot, oa, ob, os, oc, oe⟩ now _ _ _ _ (S.below (B6.trans (hS.1.mono B6.size))) (isUpds_of_row HL1.out (Nat.le_refl _) (by unfold maxLen; omega) HT1.out (X6.below hS.1)) ho
                unfold IsS RgD at js
                rw [HX.out, HU.out, HK.out, HQ.out] at js
                refine js.mono ?_
                clear js
                rintro e w2 ⟨⟨_, rfl, aG, cG, rfl, m1⟩, hb2⟩
                go_wp2_with fail
                refine hK.out _ _ (kp_step hS hb2) (fun hS2 => ?_)
                clear hK
                (try simp only [Act.put, aZ, bZ, cZ, dZ, eZ, fZ])
                refine wpAnyH_take (i := 5) (v := ?_) rfl (by kernel_rfl) (by kernel_rfl) (by kernel_rfl) (fun _ _ _ h => h) (Or.inl ⟨by rfl, ?_⟩) hS2 ?_
                rotate_left
                · (intro w hSw; (try dsimp only at hSw); go_simp; try (with_reducible rfl))
                (try simp only [Act.put, aZ, bZ, cZ, dZ, eZ, fZ])
                refine wpAnyH_take (i := 6) (v := ?_) rfl (by kernel_rfl) (by kernel_rfl) (by kernel_rfl) (fun _ _ _ h => h) (Or.inl ⟨by rfl, ?_⟩) hS2 ?_
                rotate_left
                · (intro w hSw; (try dsimp only at hSw); go_simp; try (with_reducible rfl))
                (try simp only [Act.put, aZ, bZ, cZ, dZ, eZ, fZ])
                refine wpAnyH_take (i := 7) (v := ?_) rfl (by kernel_rfl) (by kernel_rfl) (by kernel_rfl) (fun _ _ _ h => h) (Or.inl ⟨by rfl, ?_⟩) hS2 ?_
                rotate_left
                · (intro w hSw; (try dsimp only at hSw); go_simp; try (with_reducible rfl))
                (try simp only [Act.put, aZ, bZ, cZ, dZ, eZ, fZ])
                refine wpAnyH_take (i := 8) (v := ?_) rfl (by kernel_rfl) (by kernel_rfl) (by kernel_rfl) (fun _ _ _ h => h) (Or.inl ⟨by rfl, ?_⟩) hS2 ?_
                rotate_left
                · (intro w hSw; (try dsimp only at hSw); go_simp; try (with_reducible rfl))
                (try simp only [Act.put, aZ, bZ, cZ, dZ, eZ, fZ])
                exact st200.out _ _ ⟨aG, cG, w1.heap.size, w2.heap.size, rfl, m1, hS.1.size, hb2.size, (Nat.le_refl _)⟩ hS2
              · go_simp
                have hb2 : Below w1.heap.size w1 (w1.alloc (.cells #[.int .i64 0, .int .i64 0, .int .i64 0, .int .i64 0, .slice none 0 0] 28)) := (Below.refl _ _).alloc (Nat.le_refl _) _
                have n1 : RgAt (w1.alloc (.cells #[.int .i64 0, .int .i64 0, .int .i64 0, .int .i64 0, .slice none 0 0] 28)) w1.heap.size 0 0 0 0 none 0 0 := rg_new w1 0 0 0 0 none 0 0 28
                refine hK.out _ _ (kp_alloc hS _) (fun hS2 => ?_)
                clear hK
                (try simp only [Act.put, aZ, bZ, cZ, dZ, eZ, fZ])
                exact st110.out _ _ ⟨w1.heap.size, rfl, n1, hS.1.size⟩ hS2
              · go_simp
                have hb2 : Below w1.heap.size w1 (w1.alloc (.cells #[.int .i64 0, .int .i64 0, .int .i64 0, .int .i64 0, .int .i64 0, .int .i64 0, .int .i64 0, .int .i64 0, .int .i64 0, .string ⟨#[]⟩, .int .i64 0, .int .i64 0, .int .i64 0] 38)) := (Below.refl _ _).alloc (Nat.le_refl _) _
                have n1 : RowAt (w1.alloc (.cells #[.int .i64 0, .int .i64 0, .int .i64 0, .int .i64 0, .int .i64 0, .int .i64 0, .int .i64 0, .int .i64 0, .int .i64 0, .string ⟨#[]⟩, .int .i64 0, .int .i64 0, .int .i64 0] 38)) w1.heap.size 13 (uq M1.zeroU) := uq_new w1 M1.zeroU 38
                refine hK.out _ _ (kp_alloc hS _) (fun hS2 => ?_)
                clear hK
                (try simp only [Act.put, aZ, bZ, cZ, dZ, eZ, fZ])
                exact st101.out _ _ ⟨w1.heap.size, rfl, n1, hS.1.size⟩ hS2
            refine have_state 11 #[true, true, false, true, false, false, false, false, false, false, false, false, false, false] (fun act w1 => act = (⟨#[.agg #[.int .i64 id, .int .i64 a, .int .i64 b, .int .i64 c, .slice av n cn], .agg #[.int .i64 ok, .int .i64 ot, .int .i64 oa, .int .i64 ob, .string os, .int .i64 oc, .int .i64 oe], .int .i64 now, .pointer (some ⟨gA, 0, none⟩), .pointer (some ⟨gE, 0, none⟩), undef, u6, .int .i64 (r - (os.size : Int)), .pointer (some ⟨gW, 0, none⟩), .pointer (some ⟨gVW, 0, none⟩), .int .i64 kc, .pointer (some ⟨gY, 0, none⟩), undef, undef, undef, undef, undef, undef, undef, undef, undef, u21, u22, u23, u24, u25, u26, u27, u28, u29, u30, u31, u32, u33, u34, u35, u36, u37, u38, u39, u40, .agg #[.int .i64 id, .int .i64 a, .int .i64 b, .int .i64 c, .slice av n cn], .agg #[.int .i64 id, .int .i64 a, .int .i64 b, .int .i64 c, .slice (some ⟨gX, 0, none⟩) n n], u43, .agg #[.int .i64 id, .int .i64 a, .int .i64 b, .int .i64 c, .slice (some ⟨gX, 0, none⟩) n n], .agg #[.int .i64 ok, .int .i64 ot, .int .i64 oa, .int .i64 ob, .string os, .int .i64 oc, .int .i64 oe], u46, .int .i64 now, u48, u49, u50, u51, u52, u53, u54, u55, u56, u57, u58, u59, u60, u61, u62, u63, u64, u65, u66, u67, u68, u69, u70, u71, u72, u73, u74, u75, u76, u77, u78, u79, u80, u81, u82, u83, u84, u85, u86, u87, u88, u89, u90, u91, u92, u93, u94, u95, u96, u97, u98, u99, u100, u101, u102, u103, u104, u105, u106, u107, u108, u109, u110, u111, u112, u113, u114, u115, u116, u117, u118, u119, u120, u121, u122, u123, u124, u125, u126, u127, u128, u129, u130, u131, u132, u133, u134, u135, u136, u137], []⟩ : Act)) ?_ (fun st000 => ?_)
            · rintro act w1 rfl hS
              refine wpAnyH_ready (rs := [2, 9, 10]) (by kernel_rfl) (by simp) ?_
              refine (AllReadyH.cons (o := _) rfl (fun K hK => ?_) (AllReadyH.cons (o := _) rfl (fun K hK => ?_) (AllReadyH.cons (o := _) rfl (fun K hK => ?_) AllReadyH.nil)))
              · go_simp
                refine (toOp_any ok ot oa ob oc oe os _).mono ?_
                rintro e w2 ⟨rfl, hb2⟩
                go_wp2_with fail
                refine hK.out _ _ (kp_step hS hb2) (fun hS2 => ?_)
                clear hK
                (try simp only [Act.put, aZ, bZ, cZ, dZ, eZ, fZ])
                exact st100.out _ _ rfl hS2
              · go_simp
                have hb2 : Below w1.heap.size w1 (w1.alloc (.cells #[.int .i64 0, .int .i64 0, .int .i64 0, .int .i64 0, .slice none 0 0] 28)) := (Below.refl _ _).alloc (Nat.le_refl _) _
                have n1 : RgAt (w1.alloc (.cells #[.int .i64 0, .int .i64 0, .int .i64 0, .int .i64 0, .slice none 0 0] 28)) w1.heap.size 0 0 0 0 none 0 0 := rg_new w1 0 0 0 0 none 0 0 28
                refine hK.out _ _ (kp_alloc hS _) (fun hS2 => ?_)
                clear hK
                (try simp only [Act.put, aZ, bZ, cZ, dZ, eZ, fZ])
                exact st010.out _ _ ⟨w1.heap.size, rfl, n1, hS.1.size⟩ hS2
              · go_simp
                have hb2 : Below w1.heap.size w1 (w1.alloc (.cells #[.int .i64 0, .int .i64 0, .int .i64 0, .int .i64 0, .int .i64 0, .int .i64 0, .int .i64 0, .int .i64 0, .int .i64 0, .string ⟨#[]⟩, .int .i64 0, .int .i64 0, .int .i64 0] 38)) := (Below.refl _ _).alloc (Nat.le_refl _) _
                have n1 : RowAt (w1.alloc (.cells #[.int .i64 0, .int .i64 0, .int .i64 0, .int .i64 0, .int .i64 0, .int .i64 0, .int .i64 0, .int .i64 0, .int .i64 0, .string ⟨#[]⟩, .int .i64 0, .int .i64 0, .int .i64 0] 38)) w1.heap.size 13 (uq M1.zeroU) := uq_new w1 M1.zeroU 38
                refine hK.out _ _ (kp_alloc hS _) (fun hS2 => ?_)
                clear hK
                (try simp only [Act.put, aZ, bZ, cZ, dZ, eZ, fZ])
                exact st001.out _ _ ⟨w1.heap.size, rfl, n1, hS.1.size⟩ hS2
            refine wpAnyH_take (i := 0) (v := ?_) rfl (by kernel_rfl) (by kernel_rfl) (by kernel_rfl) (fun _ _ _ h => h) (Or.inl ⟨by rfl, ?_⟩) hHeld ?_
            rotate_left
            · (intro w hSw; (try dsimp only at hSw); go_simp; try (with_reducible rfl))
            (try simp only [Act.put, aZ, bZ, cZ, dZ, eZ, fZ])
            refine wpAnyH_take (i := 1) (v := ?_) rfl (by kernel_rfl) (by kernel_rfl) (by kernel_rfl) (fun _ _ _ h => h) (Or.inl ⟨by rfl, ?_⟩) hHeld ?_
            rotate_left
            · (intro w hSw; (try dsimp only at hSw); go_simp; try (with_reducible rfl))
            (try simp only [Act.put, aZ, bZ, cZ, dZ, eZ, fZ])
            refine wpAnyH_take (i := 3) (v := ?_) rfl (by kernel_rfl) (by kernel_rfl) (by kernel_rfl) (fun _ _ _ h => h) (Or.inl ⟨by rfl, ?_⟩) hHeld ?_
            rotate_left
            · (intro w hSw; (try dsimp only at hSw); go_simp; try (with_reducible rfl))
            (try simp only [Act.put, aZ, bZ, cZ, dZ, eZ, fZ])
            exact st000.out _ _ rfl hHeld
          case rest =>
            obtain ⟨gG, gVG, loG, hiG, aG, cG, rfl, rfl, rfl, hl1G, hl2G, hl3G, hl4G, hl5G, hl6G, hl7G, hneG, G7, VG7, MG7, hb7⟩ := hcut
            obtain ⟨w7, hw7⟩ : ∃ v, v = wc := ⟨_, rfl⟩
            rw [← hw7] at hl3G G7 VG7 MG7 hb7 ⊢
            clear hw7
            have B7 := B6.trans (hb7.mono B6.size)
            have hs7 := hb7.size
            have hltgG := G7.lt
            have hltgVG := VG7.lt
            clear e0 e1 e2 e3 e4 e5 e6 el
            clear d0 d1 d2 d3 d4 dl
            have A7 : RgAt w7 gA id a b c av n cn := A6.below hb7
            have E7 : OpAt w7 gE ⟨ok, ot, oa, ob, os, oc, oe⟩ := RowAt.below E6 hb7
            have W7 : RgAt w7 gW t.id t.a t.b t.c aW q cW := W6.below hb7
            have VW7 : RowAt w7 gVW 13 (uq u) := RowAt.below VW6 hb7
            have MW7 : MU w7 aW q cW loW hiW (ucell t.us) := MW6.below hb7
            have X7 : RowAt w7 gX (n * 13) (ucell us) := RowAt.below X6 hb7
            have Y7 : RgAt w7 gY id a b c (some ⟨gX, 0, none⟩) n n := Y6.below hb7
            clear A6 E6 W6 VW6 MW6 X6 Y6
            obtain ⟨d0, d1, d2, d3, d4⟩ := G7.cells
            have dl := G7.lt
            obtain ⟨e0, e1, e2, e3, e4⟩ := W7.cells
            have el := W7.lt
            go_wp2_with fail
            refine (eqRegion_self t.id t.a t.b t.c _ _ _ _ _ _ _ (MG7.upds HQ.out HTX.out) (MW7.upds HQ.out HTX.out)).mono ?_
            rintro e w8 ⟨rfl, hb8⟩
            have B8 := B7.trans (hb8.mono B7.size)
            have hs8 := hb8.size
            have A8 : RgAt w8 gA id a b c av n cn := A7.below hb8
            have E8 : OpAt w8 gE ⟨ok, ot, oa, ob, os, oc, oe⟩ := RowAt.below E7 hb8
            have W8 : RgAt w8 gW t.id t.a t.b t.c aW q cW := W7.below hb8
            have VW8 : RowAt w8 gVW 13 (uq u) := RowAt.below VW7 hb8
            have MW8 : MU w8 aW q cW loW hiW (ucell t.us) := MW7.below hb8
            have X8 : RowAt w8 gX (n * 13) (ucell us) := RowAt.below X7 hb8
            have Y8 : RgAt w8 gY id a b c (some ⟨gX, 0, none⟩) n n := Y7.below hb8
            have G8 : RgAt w8 gG t.id t.a t.b t.c aG q cG := G7.below hb8
            have VG8 : RowAt w8 gVG 13 (uq u) := RowAt.below VG7 hb8
            have MG8 : MU w8 aG q cG loG hiG (ucell t.us) := MG7.below hb8
            clear A7 E7 W7 VW7 MW7 X7 Y7 G7 VG7 MG7
            clear d0 d1 d2 d3 d4 dl
            clear e0 e1 e2 e3 e4 el
            obtain ⟨d0, d1, d2, d3, d4, d5, d6, d7, d8, d9, d10, d11, d12⟩ := uq_cells VG8
            have dl := VG8.lt
            obtain ⟨e0, e1, e2, e3, e4, e5, e6, e7, e8, e9, e10, e11, e12⟩ := uq_cells VW8
            have el := VW8.lt
            go_wp2_with fail
            refine (eqUpdate_self u.dr u.dn u.sw u.sc u.sr u.k u.tr u.id u.pa u.st u.en u.lv u.s _).mono ?_
            rintro e w9 ⟨rfl, hb9⟩
            have B9 := B8.trans (hb9.mono B8.size)
            have hs9 := hb9.size
            have A9 : RgAt w9 gA id a b c av n cn := A8.below hb9
            have E9 : OpAt w9 gE ⟨ok, ot, oa, ob, os, oc, oe⟩ := RowAt.below E8 hb9
            have W9 : RgAt w9 gW t.id t.a t.b t.c aW q cW := W8.below hb9
            have VW9 : RowAt w9 gVW 13 (uq u) := RowAt.below VW8 hb9
            have MW9 : MU w9 aW q cW loW hiW (ucell t.us) := MW8.below hb9
            have X9 : RowAt w9 gX (n * 13) (ucell us) := RowAt.below X8 hb9
            have Y9 : RgAt w9 gY id a b c (some ⟨gX, 0, none⟩) n n := Y8.below hb9
            have G9 : RgAt w9 gG t.id t.a t.b t.c aG q cG := G8.below hb9
            have VG9 : RowAt w9 gVG 13 (uq u) := RowAt.below VG8 hb9
            have MG9 : MU w9 aG q cG loG hiG (ucell t.us) := MG8.below hb9
            clear A8 E8 W8 VW8 MW8 X8 Y8 G8 VG8 MG8
            clear d0 d1 d2 d3 d4 d5 d6 d7 d8 d9 d10 d11 d12 dl
            clear e0 e1 e2 e3 e4 e5 e6 e7 e8 e9 e10 e11 e12 el
            obtain ⟨d0, d1, d2, d3, d4⟩ := Y9.cells
            have dl := Y9.lt
            obtain ⟨e0, e1, e2, e3, e4⟩ := A9.cells
            have el := A9.lt
            go_wp2_with fail
            refine wp_region_held_drew (S := fun w' => Kp w9 w') (by kernel_rfl) ?_ (fun hHeld => ?_)
            · exact kp_zero _
            refine wpAnyH_take (i := 0) (v := ?_) rfl (by kernel_rfl) (by kernel_rfl) (by kernel_rfl) (fun _ _ _ h => h) (Or.inl ⟨by rfl, ?_⟩) hHeld ?_
            rotate_left
            · (intro w hSw; (try dsimp only at hSw); go_simp; try (with_reducible rfl))
            (try simp only [Act.put, aZ, bZ, cZ, dZ, eZ, fZ])
            refine wpAnyH_take (i := 1) (v := ?_) rfl (by kernel_rfl) (by kernel_rfl) (by kernel_rfl) (fun _ _ _ h => h) (Or.inl ⟨by rfl, ?_⟩) hHeld ?_
            rotate_left
            · (intro w hSw; (try dsimp only at hSw); go_simp; try (with_reducible rfl))
            (try simp only [Act.put, aZ, bZ, cZ, dZ, eZ, fZ])
            refine wpAnyH_ready (rs := [2]) (by kernel_rfl) (by simp) ?_
            refine AllReadyH.cons (o := _) rfl (fun K hK => ?_) AllReadyH.nil
            go_simp
            (refine (toRegion_any id a b c _ _ _ _ _ ((h1.below B9).below hHeld.1) hn').mono ?_; rintro e wa ⟨gT, rfl, hgT, T1, hba⟩; go_wp2_with fail)
            refine hK.out _ _ ?_ (fun hHeld2 => ?_)
            · exact kp_step hHeld hba
            clear hK K hHeld
            have hHeld := hHeld2
            clear hHeld2
            (try simp only [Act.put, aZ, bZ, cZ, dZ, eZ, fZ])
            have hKa := hHeld.1
            have Xa := X9.below hKa
            refine wpAnyH_ready (rs := [3]) (by kernel_rfl) (by simp) ?_
            refine AllReadyH.cons (o := _) rfl (fun K hK => ?_) AllReadyH.nil
            go_simp
            (refine (eqRegion_self id a b c _ _ _ _ _ _ _ (isUpds_of_row HL1.out (Nat.le_refl _) (by unfold maxLen; omega) HT1.out Xa) (isUpds_of_row HL1.out (Nat.le_refl _) (by unfold maxLen; omega) HT1.out T1)).mono ?_; rintro e wb ⟨rfl, hbb⟩; go_wp2_with fail)
            refine hK.out _ _ ?_ (fun hHeld2 => ?_)
            · exact kp_step hHeld hbb
            clear hK K hHeld
            have hHeld := hHeld2
            clear hHeld2
            (try simp only [Act.put, aZ, bZ, cZ, dZ, eZ, fZ])
            refine wpAnyH_take (i := 4) (v := ?_) rfl (by kernel_rfl) (by kernel_rfl) (by kernel_rfl) (fun _ _ _ h => h) (Or.inl ⟨by rfl, ?_⟩) hHeld ?_
            rotate_left
            · (intro w hSw; (try dsimp only at hSw); go_simp; try (with_reducible rfl))
            (try simp only [Act.put, aZ, bZ, cZ, dZ, eZ, fZ])
            refine wpAnyH_done (by kernel_rfl) ?_ _
            clear d0 d1 d2 d3 d4 dl
            clear e0 e1 e2 e3 e4 el
            have hb10 := hHeld.1
            clear hHeld hKa Xa
            obtain ⟨w10, hw10⟩ : ∃ v, v = wb := ⟨_, rfl⟩
            rw [← hw10] at hb10 ⊢
            clear hw10
            have B10 := B9.trans (hb10.mono B9.size)
            have hs10 := hb10.size
            have A10 : RgAt w10 gA id a b c av n cn := A9.below hb10
            have E10 : OpAt w10 gE ⟨ok, ot, oa, ob, os, oc, oe⟩ := RowAt.below E9 hb10
            have W10 : RgAt w10 gW t.id t.a t.b t.c aW q cW := W9.below hb10
            have VW10 : RowAt w10 gVW 13 (uq u) := RowAt.below VW9 hb10
            have MW10 : MU w10 aW q cW loW hiW (ucell t.us) := MW9.below hb10
            have X10 : RowAt w10 gX (n * 13) (ucell us) := RowAt.below X9 hb10
            have Y10 : RgAt w10 gY id a b c (some ⟨gX, 0, none⟩) n n := Y9.below hb10
            have G10 : RgAt w10 gG t.id t.a t.b t.c aG q cG := G9.below hb10
            have VG10 : RowAt w10 gVG 13 (uq u) := RowAt.below VG9 hb10
            have MG10 : MU w10 aG q cG loG hiG (ucell t.us) := MG9.below hb10
            clear A9 E9 W9 VW9 MW9 X9 Y9 G9 VG9 MG9
            obtain ⟨d0, d1, d2, d3, d4⟩ := Y10.cells
            have dl := Y10.lt
            go_wp2_with fail
            refine (markRegion_some id a b c gX n n _ 1 _ X10 (Nat.le_refl _) (by unfold maxLen; omega) hn' (by omega) (by omega)).mono ?_
            rintro e w11 ⟨rfl, hb11⟩
            have B11 := B10.trans (gr_to hb11 B10.size (by omega))
            have hs11 := hb11.size
            clear d0 d1 d2 d3 d4 dl
            clear X10 Y10
            have A11 : RgAt w11 gA id a b c av n cn := A10.gr hb11 (by omega)
            have E11 : OpAt w11 gE ⟨ok, ot, oa, ob, os, oc, oe⟩ := E10.gr hb11 (by omega)
            have W11 : RgAt w11 gW t.id t.a t.b t.c aW q cW := W10.gr hb11 (by omega)
            have VW11 : RowAt w11 gVW 13 (uq u) := VW10.gr hb11 (by omega)
            have MW11 : MU w11 aW q cW loW hiW (ucell t.us) := MW10.off hb11 (by omega)
            have G11 : RgAt w11 gG t.id t.a t.b t.c aG q cG := G10.gr hb11 (by omega)
            have VG11 : RowAt w11 gVG 13 (uq u) := VG10.gr hb11 (by omega)
            have MG11 : MU w11 aG q cG loG hiG (ucell t.us) := MG10.off hb11 (by omega)
            clear A10 E10 W10 VW10 MW10 G10 VG10 MG10
            have e1 : ¬ (1 + 13 * (n : Int)) < 0 := by omega
            obtain ⟨d0, d1, d2, d3, d4⟩ := G11.cells
            have dl := G11.lt
            obtain ⟨e0, e1, e2, e3, e4⟩ := W11.cells
            have el := W11.lt
            go_wp2_with fail
            refine (eqRegion_self t.id t.a t.b t.c _ _ _ _ _ _ _ (MG11.upds HQ.out HTX.out) (MW11.upds HQ.out HTX.out)).mono ?_
            rintro e w12 ⟨rfl, hb12⟩
            have B12 := B11.trans (hb12.mono B11.size)
            have hs12 := hb12.size
            have A12 : RgAt w12 gA id a b c av n cn := A11.below hb12
            have E12 : OpAt w12 gE ⟨ok, ot, oa, ob, os, oc, oe⟩ := RowAt.below E11 hb12
            have W12 : RgAt w12 gW t.id t.a t.b t.c aW q cW := W11.below hb12
            have VW12 : RowAt w12 gVW 13 (uq u) := RowAt.below VW11 hb12
            have MW12 : MU w12 aW q cW loW hiW (ucell t.us) := MW11.below hb12
            have G12 : RgAt w12 gG t.id t.a t.b t.c aG q cG := G11.below hb12
            have VG12 : RowAt w12 gVG 13 (uq u) := RowAt.below VG11 hb12
            have MG12 : MU w12 aG q cG loG hiG (ucell t.us) := MG11.below hb12
            clear A11 E11 W11 VW11 MW11 G11 VG11 MG11
            clear d0 d1 d2 d3 d4 dl
            clear e0 e1 e2 e3 e4 el
            obtain ⟨d0, d1, d2, d3, d4, d5, d6, d7, d8, d9, d10, d11, d12⟩ := uq_cells VG12
            have dl := VG12.lt
            obtain ⟨e0, e1, e2, e3, e4, e5, e6, e7, e8, e9, e10, e11, e12⟩ := uq_cells VW12
            have el := VW12.lt
            go_wp2_with fail
            refine (eqUpdate_self u.dr u.dn u.sw u.sc u.sr u.k u.tr u.id u.pa u.st u.en u.lv u.s _).mono ?_
            rintro e w13 ⟨rfl, hb13⟩
            have B13 := B12.trans (hb13.mono B12.size)
            have hs13 := hb13.size
            have A13 : RgAt w13 gA id a b c av n cn := A12.below hb13
            have E13 : OpAt w13 gE ⟨ok, ot, oa, ob, os, oc, oe⟩ := RowAt.below E12 hb13
            have W13 : RgAt w13 gW t.id t.a t.b t.c aW q cW := W12.below hb13
            have VW13 : RowAt w13 gVW 13 (uq u) := RowAt.below VW12 hb13
            have MW13 : MU w13 aW q cW loW hiW (ucell t.us) := MW12.below hb13
            have G13 : RgAt w13 gG t.id t.a t.b t.c aG q cG := G12.below hb13
            have VG13 : RowAt w13 gVG 13 (uq u) := RowAt.below VG12 hb13
            have MG13 : MU w13 aG q cG loG hiG (ucell t.us) := MG12.below hb13
            clear A12 E12 W12 VW12 MW12 G12 VG12 MG12
            clear d0 d1 d2 d3 d4 d5 d6 d7 d8 d9 d10 d11 d12 dl
            clear e0 e1 e2 e3 e4 e5 e6 e7 e8 e9 e10 e11 e12 el
            obtain ⟨d0, d1, d2, d3, d4⟩ := G13.cells
            have dl := G13.lt
            go_wp2_with fail
            refine (markRegion_any t.id t.a t.b t.c _ _ _ _ _ t.us 1 _ MG13 (by omega) (by omega) (by omega)).mono ?_
            rintro e w14 ⟨rfl, MH14, mk⟩
            have W14 : RgAt w14 gW t.id t.a t.b t.c aW q cW := mk_row MG13 mk W13 (by omega)
            have G14 : RgAt w14 gG t.id t.a t.b t.c aG q cG := mk_row MG13 mk G13 (by omega)
            have A14 : RgAt w14 gA id a b c av n cn := mk_row MG13 mk A13 (by omega)
            have E14 : OpAt w14 gE ⟨ok, ot, oa, ob, os, oc, oe⟩ := mk_row MG13 mk E13 (by omega)
            have VW14 : RowAt w14 gVW 13 (uq u) := mk_row MG13 mk VW13 (by omega)
            have VG14 : RowAt w14 gVG 13 (uq u) := mk_row MG13 mk VG13 (by omega)
            have MW14 := MW13.mk MG13 mk (by omega)
            have B14 := B13.trans (MkU.below MG13 mk B13.size (by omega))
            have hs14 := (MkU.below (B := w.heap.size) MG13 mk B13.size (by omega)).size
            clear d0 d1 d2 d3 d4 dl
            clear W13 G13 A13 E13 VW13 VG13 MW13 MG13 mk
            have e4 : ¬ (1 + 13 * (q : Int)) < 0 := by omega
            obtain ⟨d0, d1, d2, d3, d4⟩ := G14.cells
            have dl := G14.lt
            go_wp2_with fail
            refine (heldRegion_any t.id t.a t.b t.c _ _ _ _ _ 1 _ MH14 (by omega) (by omega) (by omega)).mono ?_
            rintro e w15 ⟨rfl, hb15⟩
            have B15 := B14.trans (hb15.mono B14.size)
            have hs15 := hb15.size
            have A15 : RgAt w15 gA id a b c av n cn := A14.below hb15
            have E15 : OpAt w15 gE ⟨ok, ot, oa, ob, os, oc, oe⟩ := RowAt.below E14 hb15
            have W15 : RgAt w15 gW t.id t.a t.b t.c aW q cW := W14.below hb15
            have VW15 : RowAt w15 gVW 13 (uq u) := RowAt.below VW14 hb15
            have MW15 : MU w15 aW q cW loW hiW (ucell t.us) := MW14.below hb15
            have G15 : RgAt w15 gG t.id t.a t.b t.c aG q cG := G14.below hb15
            have VG15 : RowAt w15 gVG 13 (uq u) := RowAt.below VG14 hb15
            have MH15 : MU w15 aG q cG loG hiG (mcell 1) := MH14.below hb15
            clear A14 E14 W14 VW14 MW14 G14 VG14 MH14
            clear d0 d1 d2 d3 d4 dl
            go_upto_if 104 with fail
            go_cut [] (fun wc => wc = w15)
            case first =>
              go_wp2_with fail
              go_meet
              rfl
            case rest =>
              obtain rfl := hcut.symm
              go_upto_region 27 with fail
              obtain ⟨d0, d1, d2, d3, d4⟩ := A15.cells
              have dl := A15.lt
              obtain ⟨e0, e1, e2, e3, e4, e5, e6⟩ := OpAt.cells E15
              have el := E15.lt
              go_cut [18, 19, 20] (fun v1 v2 v3 wc => ∃ (gH gVH loH hiH : Nat) (aH : Option Addr) (cH : Nat), v1 = .pointer (some ⟨gH, 0, none⟩) ∧ v2 = .pointer (some ⟨gVH, 0, none⟩) ∧ v3 = .int .i64 kc ∧ w15.heap.size ≤ loH ∧ loH ≤ hiH ∧ hiH ≤ wc.heap.size ∧ w15.heap.size ≤ gH ∧ w15.heap.size ≤ gVH ∧ (gH < loH ∨ hiH ≤ gH) ∧ (gVH < loH ∨ hiH ≤ gVH) ∧ ¬ gH = gVH ∧ RgAt wc gH t.id t.a t.b t.c aH q cH ∧ RowAt wc gVH 13 (uq u) ∧ MU wc aH q cH loH hiH (ucell t.us) ∧ Below w15.heap.size w15 wc)
              case first =>
                refine wp_region_held_drew (S := fun w' => Kp w15 w') (by kernel_rfl) ?_ (fun hHeld => ?_)
                · exact kp_zero _
                refine have_state 3 #[true, true, true, true, true, true, true, true, true, true, true, true, false, false, false] (fun act w1 => ∃ (gT : Nat) (aH : Option Addr) (cH : Nat) (lo : Nat) (hi : Nat) (qA : Nat) (qB : Nat), act = (⟨#[.agg #[.int .i64 id, .int .i64 a, .int .i64 b, .int .i64 c, .slice av n cn], .agg #[.int .i64 ok, .int .i64 ot, .int .i64 oa, .int .i64 ob, .string os, .int .i64 oc, .int .i64 oe], .int .i64 now, .pointer (some ⟨gA, 0, none⟩), .pointer (some ⟨gE, 0, none⟩), undef, u6, .int .i64 (r - (os.size : Int)), .pointer (some ⟨gW, 0, none⟩), .pointer (some ⟨gVW, 0, none⟩), .int .i64 kc, .pointer (some ⟨gY, 0, none⟩), .pointer (some ⟨gG, 0, none⟩), .pointer (some ⟨gVG, 0, none⟩), .int .i64 kc, .int .i64 (1 + 13 * (n : Int)), .int .i64 (1 + 13 * (q : Int)), .int .i64 (1 + 13 * (q : Int)), .pointer (some ⟨qA, 0, none⟩), .pointer (some ⟨qB, 0, none⟩), undef, u21, u22, u23, u24, u25, u26, u27, u28, u29, u30, u31, u32, u33, u34, u35, u36, u37, u38, u39, u40, u41, u42, u43, u44, u45, u46, u47, u48, u49, u50, u51, u52, u53, u54, u55, u56, u57, u58, u59, u60, u61, u62, u63, u64, u65, u66, u67, u68, u69, u70, u71, u72, u73, u74, u75, u76, u77, u78, u79, u80, u81, u82, u83, u84, u85, u86, u87, u88, u89, u90, u91, u92, u93, u94, u95, u96, u97, u98, u99, u100, u101, u102, u103, u104, .tuple #[.agg #[.int .i64 t.id, .int .i64 t.a, .int .i64 t.b, .int .i64 t.c, .slice aH q cH], .agg #[.int .i64 u.dr, .int .i64 u.dn, .int .i64 u.sw, .int .i64 u.sc, .int .i64 u.sr, .int .i64 u.k, .int .i64 u.tr, .int .i64 u.id, .int .i64 u.pa, .string u.s, .int .i64 u.st, .int .i64 u.en, .int .i64 u.lv], .int .i64 kc], .agg #[.int .i64 id, .int .i64 a, .int .i64 b, .int .i64 c, .slice av n cn], .agg #[.int .i64 id, .int .i64 a, .int .i64 b, .int .i64 c, .slice (some ⟨gT, 0, none⟩) n n], .agg #[.int .i64 ok, .int .i64 ot, .int .i64 oa, .int .i64 ob, .string os, .int .i64 oc, .int .i64 oe], .agg #[.int .i64 ok, .int .i64 ot, .int .i64 oa, .int .i64 ob, .string os, .int .i64 oc, .int .i64 oe], .int .i64 now, .tuple #[.agg #[.int .i64 t.id, .int .i64 t.a, .int .i64 t.b, .int .i64 t.c, .slice aH q cH], .agg #[.int .i64 u.dr, .int .i64 u.dn, .int .i64 u.sw, .int .i64 u.sc, .int .i64 u.sr, .int .i64 u.k, .int .i64 u.tr, .int .i64 u.id, .int .i64 u.pa, .string u.s, .int .i64 u.st, .int .i64 u.en, .int .i64 u.lv], .int .i64 kc], .agg #[.int .i64 t.id, .int .i64 t.a, .int .i64 t.b, .int .i64 t.c, .slice aH q cH], .agg #[.int .i64 u.dr, .int .i64 u.dn, .int .i64 u.sw, .int .i64 u.sc, .int .i64 u.sr, .int .i64 u.k, .int .i64 u.tr, .int .i64 u.id, .int .i64 u.pa, .string u.s, .int .i64 u.st, .int .i64 u.en, .int .i64 u.lv], .int .i64 kc, u115, u116, u117, u118, u119, u120, u121, u122, u123, u124, u125, u126, u127, u128, u129, u130, u131, u132, u133, u134, u135, u136, u137], []⟩ : Act) ∧ MU w1 aH q cH lo hi (ucell t.us) ∧ w15.heap.size ≤ lo ∧ lo ≤ hi ∧ hi ≤ w1.heap.size ∧ RgAt w1 qA 0 0 0 0 none 0 0 ∧ w15.heap.size ≤ qA ∧ (qA < lo ∨ hi ≤ qA) ∧ RowAt w1 qB 13 (uq M1.zeroU) ∧ w15.heap.size ≤ qB ∧ (qB < lo ∨ hi ≤ qB) ∧ ¬ qA = qB) ?_ (fun st311 => ?_)
                · rintro act w1 ⟨gT, aH, cH, lo, hi, qA, qB, rfl, m1, m2, m3, m4, p1, p2, p3, r1, r2, r3, pr⟩ hS
                  refine wpAnyH_ready (rs := [12]) (by kernel_rfl) (by simp) ?_
                  refine (AllReadyH.cons (o := _) rfl (fun K hK => ?_) AllReadyH.nil)
                  · obtain ⟨a0, a1, a2, a3, a4⟩ := p1.cells
                    obtain ⟨b0, b1, b2, b3, b4⟩ := p1.frees
                    have zl9 := p1.lt
                    go_simp
                    refine hK.out _ _ (kp_of (bel_put5 hS.1 p2 _ _ _ _ _)) (fun hS2 => ?_)
                    clear hK
                    (try simp only [Act.put, aZ, bZ, cZ, dZ, eZ, fZ])
                    have z4 : RgAt (((((w1.setCell ⟨qA, 0, none⟩ (.int .i64 t.id)).setCell ⟨qA, 1, none⟩ (.int .i64 t.a)).setCell ⟨qA, 2, none⟩ (.int .i64 t.b)).setCell ⟨qA, 3, none⟩ (.int .i64 t.c)).setCell ⟨qA, 4, none⟩ (.slice aH q cH)) qA t.id t.a t.b t.c aH q cH := p1.put t.id t.a t.b t.c aH q cH
                    have y4 : RowAt (((((w1.setCell ⟨qA, 0, none⟩ (.int .i64 t.id)).setCell ⟨qA, 1, none⟩ (.int .i64 t.a)).setCell ⟨qA, 2, none⟩ (.int .i64 t.b)).setCell ⟨qA, 3, none⟩ (.int .i64 t.c)).setCell ⟨qA, 4, none⟩ (.slice aH q cH)) qB 13 (uq M1.zeroU) := far5 r1 pr _ _ _ _ _
                    have B4 : Below w15.heap.size w15 (((((w1.setCell ⟨qA, 0, none⟩ (.int .i64 t.id)).setCell ⟨qA, 1, none⟩ (.int .i64 t.a)).setCell ⟨qA, 2, none⟩ (.int .i64 t.b)).setCell ⟨qA, 3, none⟩ (.int .i64 t.c)).setCell ⟨qA, 4, none⟩ (.slice aH q cH)) := bel_put5 hS.1 p2 _ _ _ _ _
                    have m5 : MU (((((w1.setCell ⟨qA, 0, none⟩ (.int .i64 t.id)).setCell ⟨qA, 1, none⟩ (.int .i64 t.a)).setCell ⟨qA, 2, none⟩ (.int .i64 t.b)).setCell ⟨qA, 3, none⟩ (.int .i64 t.c)).setCell ⟨qA, 4, none⟩ (.slice aH q cH)) aH q cH lo hi (ucell t.us) := mu_set5 m1 (mu_apart m1 p3) _ _ _ _ _
                    have s5 : w1.heap.size ≤ (((((w1.setCell ⟨qA, 0, none⟩ (.int .i64 t.id)).setCell ⟨qA, 1, none⟩ (.int .i64 t.a)).setCell ⟨qA, 2, none⟩ (.int .i64 t.b)).setCell ⟨qA, 3, none⟩ (.int .i64 t.c)).setCell ⟨qA, 4, none⟩ (.slice aH q cH)).heap.size := (bel_put5 (Below.refl 0 w1) (Nat.zero_le qA) _ _ _ _ _).size
                    clear a0 a1 a2 a3 a4 b0 b1 b2 b3 b4
                    obtain ⟨w2, hw2⟩ : ∃ W, (((((w1.setCell ⟨qA, 0, none⟩ (.int .i64 t.id)).setCell ⟨qA, 1, none⟩ (.int .i64 t.a)).setCell ⟨qA, 2, none⟩ (.int .i64 t.b)).setCell ⟨qA, 3, none⟩ (.int .i64 t.c)).setCell ⟨qA, 4, none⟩ (.slice aH q cH)) = W := ⟨_, rfl⟩
                    rw [hw2] at hS2 z4 y4 B4 m5 s5 ⊢
                    clear hw2
                    obtain ⟨ca0, ca1, ca2, ca3, ca4, ca5, ca6, ca7, ca8, ca9, ca10, ca11, ca12⟩ := uq_cells y4
                    obtain ⟨fa0, fa1, fa2, fa3, fa4, fa5, fa6, fa7, fa8, fa9, fa10, fa11, fa12⟩ := uq_free y4
                    have yl9 := y4.lt
                    have hHeld := hS2
                    refine wpAnyH_ready (rs := [13]) (by kernel_rfl) (by simp) ?_
                    refine AllReadyH.cons (o := _) rfl (fun K hK => ?_) AllReadyH.nil
                    go_simp
                    skip
                    refine hK.out _ _ ?_ (fun hHeld2 => ?_)
                    · exact kp_of (bel_put B4 r2 u)
                    clear hK K hHeld
                    have hHeld := hHeld2
                    clear hHeld2
                    (try simp only [Act.put, aZ, bZ, cZ, dZ, eZ, fZ])
                    refine wpAnyH_take (i := 14) (v := ?_) rfl (by kernel_rfl) (by kernel_rfl) (by kernel_rfl) (fun _ _ _ h => h) (Or.inl ⟨by rfl, ?_⟩) hHeld ?_
                    rotate_left
                    · (intro w hSw; (try dsimp only at hSw); go_simp; try (with_reducible rfl))
                    (try simp only [Act.put, aZ, bZ, cZ, dZ, eZ, fZ])
                    refine wpAnyH_done (by kernel_rfl) ?_ _
                    have zz : RowAt (((((((((((((w2.setCell ⟨qB, 0, none⟩ (.int .i64 u.dr)).setCell ⟨qB, 1, none⟩ (.int .i64 u.dn)).setCell ⟨qB, 2, none⟩ (.int .i64 u.sw)).setCell ⟨qB, 3, none⟩ (.int .i64 u.sc)).setCell ⟨qB, 4, none⟩ (.int .i64 u.sr)).setCell ⟨qB, 5, none⟩ (.int .i64 u.k)).setCell ⟨qB, 6, none⟩ (.int .i64 u.tr)).setCell ⟨qB, 7, none⟩ (.int .i64 u.id)).setCell ⟨qB, 8, none⟩ (.int .i64 u.pa)).setCell ⟨qB, 9, none⟩ (.string u.s)).setCell ⟨qB, 10, none⟩ (.int .i64 u.st)).setCell ⟨qB, 11, none⟩ (.int .i64 u.en)).setCell ⟨qB, 12, none⟩ (.int .i64 u.lv)) qB 13 (uq u) := uq_put y4 u
                    have zr : RgAt (((((((((((((w2.setCell ⟨qB, 0, none⟩ (.int .i64 u.dr)).setCell ⟨qB, 1, none⟩ (.int .i64 u.dn)).setCell ⟨qB, 2, none⟩ (.int .i64 u.sw)).setCell ⟨qB, 3, none⟩ (.int .i64 u.sc)).setCell ⟨qB, 4, none⟩ (.int .i64 u.sr)).setCell ⟨qB, 5, none⟩ (.int .i64 u.k)).setCell ⟨qB, 6, none⟩ (.int .i64 u.tr)).setCell ⟨qB, 7, none⟩ (.int .i64 u.id)).setCell ⟨qB, 8, none⟩ (.int .i64 u.pa)).setCell ⟨qB, 9, none⟩ (.string u.s)).setCell ⟨qB, 10, none⟩ (.int .i64 u.st)).setCell ⟨qB, 11, none⟩ (.int .i64 u.en)).setCell ⟨qB, 12, none⟩ (.int .i64 u.lv)) qA t.id t.a t.b t.c aH q cH := far13 z4 (fun e => pr e.symm) u
                    have BB : Below w15.heap.size w15 (((((((((((((w2.setCell ⟨qB, 0, none⟩ (.int .i64 u.dr)).setCell ⟨qB, 1, none⟩ (.int .i64 u.dn)).setCell ⟨qB, 2, none⟩ (.int .i64 u.sw)).setCell ⟨qB, 3, none⟩ (.int .i64 u.sc)).setCell ⟨qB, 4, none⟩ (.int .i64 u.sr)).setCell ⟨qB, 5, none⟩ (.int .i64 u.k)).setCell ⟨qB, 6, none⟩ (.int .i64 u.tr)).setCell ⟨qB, 7, none⟩ (.int .i64 u.id)).setCell ⟨qB, 8, none⟩ (.int .i64 u.pa)).setCell ⟨qB, 9, none⟩ (.string u.s)).setCell ⟨qB, 10, none⟩ (.int .i64 u.st)).setCell ⟨qB, 11, none⟩ (.int .i64 u.en)).setCell ⟨qB, 12, none⟩ (.int .i64 u.lv)) := bel_put B4 r2 u
                    have hm : MU (((((((((((((w2.setCell ⟨qB, 0, none⟩ (.int .i64 u.dr)).setCell ⟨qB, 1, none⟩ (.int .i64 u.dn)).setCell ⟨qB, 2, none⟩ (.int .i64 u.sw)).setCell ⟨qB, 3, none⟩ (.int .i64 u.sc)).setCell ⟨qB, 4, none⟩ (.int .i64 u.sr)).setCell ⟨qB, 5, none⟩ (.int .i64 u.k)).setCell ⟨qB, 6, none⟩ (.int .i64 u.tr)).setCell ⟨qB, 7, none⟩ (.int .i64 u.id)).setCell ⟨qB, 8, none⟩ (.int .i64 u.pa)).setCell ⟨qB, 9, none⟩ (.string u.s)).setCell ⟨qB, 10, none⟩ (.int .i64 u.st)).setCell ⟨qB, 11, none⟩ (.int .i64 u.en)).setCell ⟨qB, 12, none⟩ (.int .i64 u.lv)) aH q cH lo hi (ucell t.us) := mu_set13 m5 r3 u
                    have s6 : w2.heap.size ≤ (((((((((((((w2.setCell ⟨qB, 0, none⟩ (.int .i64 u.dr)).setCell ⟨qB, 1, none⟩ (.int .i64 u.dn)).setCell ⟨qB, 2, none⟩ (.int .i64 u.sw)).setCell ⟨qB, 3, none⟩ (.int .i64 u.sc)).setCell ⟨qB, 4, none⟩ (.int .i64 u.sr)).setCell ⟨qB, 5, none⟩ (.int .i64 u.k)).setCell ⟨qB, 6, none⟩ (.int .i64 u.tr)).setCell ⟨qB, 7, none⟩ (.int .i64 u.id)).setCell ⟨qB, 8, none⟩ (.int .i64 u.pa)).setCell ⟨qB, 9, none⟩ (.string u.s)).setCell ⟨qB, 10, none⟩ (.int .i64 u.st)).setCell ⟨qB, 11, none⟩ (.int .i64 u.en)).setCell ⟨qB, 12, none⟩ (.int .i64 u.lv)).heap.size := sz13 w2 qB u
                    clear hHeld ca0 ca1 ca2 ca3 ca4 ca5 ca6 ca7 ca8 ca9 ca10 ca11 ca12 fa0 fa1 fa2 fa3 fa4 fa5 fa6 fa7 fa8 fa9 fa10 fa11 fa12
                    go_wp2_with fail
                    go_meet
                    exact ⟨qA, qB, lo, hi, aH, cH, rfl, rfl, rfl, m2, m3, by omega, p2, r2, p3, r3, pr, zr, zz, hm, BB⟩
                refine have_state 8 #[true, true, true, true, true, false, false, false, false, false, true, true, false, false, false] (fun act w1 => ∃ (gT : Nat) (qA : Nat) (qB : Nat), act = (⟨#[.agg #[.int .i64 id, .int .i64 a, .int .i64 b, .int .i64 c, .slice av n cn], .agg #[.int .i64 ok, .int .i64 ot, .int .i64 oa, .int .i64 ob, .string os, .int .i64 oc, .int .i64 oe], .int .i64 now, .pointer (some ⟨gA, 0, none⟩), .pointer (some ⟨gE, 0, none⟩), undef, u6, .int .i64 (r - (os.size : Int)), .pointer (some ⟨gW, 0, none⟩), .pointer (some ⟨gVW, 0, none⟩), .int .i64 kc, .pointer (some ⟨gY, 0, none⟩), .pointer (some ⟨gG, 0, none⟩), .pointer (some ⟨gVG, 0, none⟩), .int .i64 kc, .int .i64 (1 + 13 * (n : Int)), .int .i64 (1 + 13 * (q : Int)), .int .i64 (1 + 13 * (q : Int)), .pointer (some ⟨qA, 0, none⟩), .pointer (some ⟨qB, 0, none⟩), undef, u21, u22, u23, u24, u25, u26, u27, u28, u29, u30, u31, u32, u33, u34, u35, u36, u37, u38, u39, u40, u41, u42, u43, u44, u45, u46, u47, u48, u49, u50, u51, u52, u53, u54, u55, u56, u57, u58, u59, u60, u61, u62, u63, u64, u65, u66, u67, u68, u69, u70, u71, u72, u73, u74, u75, u76, u77, u78, u79, u80, u81, u82, u83, u84, u85, u86, u87, u88, u89, u90, u91, u92, u93, u94, u95, u96, u97, u98, u99, u100, u101, u102, u103, u104, u105, .agg #[.int .i64 id, .int .i64 a, .int .i64 b, .int .i64 c, .slice av n cn], .agg #[.int .i64 id, .int .i64 a, .int .i64 b, .int .i64 c, .slice (some ⟨gT, 0, none⟩) n n], .agg #[.int .i64 ok, .int .i64 ot, .int .i64 oa, .int .i64 ob, .string os, .int .i64 oc, .int .i64 oe], .agg #[.int .i64 ok, .int .i64 ot, .int .i64 oa, .int .i64 ob, .string os, .int .i64 oc, .int .i64 oe], .int .i64 now, u111, u112, u113, u114, u115, u116, u117, u118, u119, u120, u121, u122, u123, u124, u125, u126, u127, u128, u129, u130, u131, u132, u133, u134, u135, u136, u137], []⟩ : Act) ∧ RowAt w1 gT (n * 13) (ucell us) ∧ RgAt w1 qA 0 0 0 0 none 0 0 ∧ w15.heap.size ≤ qA ∧ RowAt w1 qB 13 (uq M1.zeroU) ∧ w15.heap.size ≤ qB ∧ ¬ qA = qB) ?_ (fun st211 => ?_)
                · rintro act w1 ⟨gT, qA, qB, rfl, T1, p1, p2, r1, r2, pr⟩ hS
                  refine wpAnyH_ready (rs := [5]) (by kernel_rfl) (by simp) ?_
                  refine (AllReadyH.cons (o := _) rfl (fun K hK => ?_) AllReadyH.nil)
                  · go_simp
                    have js := issued_impl s0 s1 s2 s3 s4 ⟨id, a, b, c, us⟩ ⟨ok, ot, oa, ob, os, oc, oe⟩ now _ _ _ _ (S.below (B15.trans (hS.1.mono B15.size))) (isUpds_of_row HL1.out (Nat.le_refl _) (by unfold maxLen; omega) HT1.out T1) ho
                    unfold IsS RgD at js
                    rw [HX.out, HU.out, HK.out, HQ.out] at js
                    refine js.mono ?_
                    clear js
                    rintro e w2 ⟨⟨_, rfl, aH, cH, rfl, m1⟩, hb2⟩
                    go_wp2_with fail
                    refine hK.out _ _ (kp_step hS hb2) (fun hS2 => ?_)
                    clear hK
                    (try simp only [Act.put, aZ, bZ, cZ, dZ, eZ, fZ])
                    refine wpAnyH_take (i := 6) (v := ?_) rfl (by kernel_rfl) (by kernel_rfl) (by kernel_rfl) (fun _ _ _ h => h) (Or.inl ⟨by rfl, ?_⟩) hS2 ?_
                    rotate_left
                    · (intro w hSw; (try dsimp only at hSw); go_simp; try (with_reducible rfl))
                    (try simp only [Act.put, aZ, bZ, cZ, dZ, eZ, fZ])
                    refine wpAnyH_take (i := 7) (v := ?_) rfl (by kernel_rfl) (by kernel_rfl) (by kernel_rfl) (fun _ _ _ h => h) (Or.inl ⟨by rfl, ?_⟩) hS2 ?_
                    rotate_left
                    · (intro w hSw; (try dsimp only at hSw); go_simp; try (with_reducible rfl))
                    (try simp only [Act.put, aZ, bZ, cZ, dZ, eZ, fZ])
                    refine wpAnyH_take (i := 8) (v := ?_) rfl (by kernel_rfl) (by kernel_rfl) (by kernel_rfl) (fun _ _ _ h => h) (Or.inl ⟨by rfl, ?_⟩) hS2 ?_
                    rotate_left
                    · (intro w hSw; (try dsimp only at hSw); go_simp; try (with_reducible rfl))
                    (try simp only [Act.put, aZ, bZ, cZ, dZ, eZ, fZ])
                    refine wpAnyH_take (i := 9) (v := ?_) rfl (by kernel_rfl) (by kernel_rfl) (by kernel_rfl) (fun _ _ _ h => h) (Or.inl ⟨by rfl, ?_⟩) hS2 ?_
                    rotate_left
                    · (intro w hSw; (try dsimp only at hSw); go_simp; try (with_reducible rfl))
                    (try simp only [Act.put, aZ, bZ, cZ, dZ, eZ, fZ])
                    exact st311.out _ _ ⟨gT, aH, cH, w1.heap.size, w2.heap.size, qA, qB, rfl, m1, hS.1.size, hb2.size, (Nat.le_refl _), (RowAt.below p1 hb2), p2, (.inl p1.lt), (RowAt.below r1 hb2), r2, (.inl r1.lt), pr⟩ hS2
                refine have_state 4 #[true, true, true, true, true, true, true, true, true, true, false, true, false, false, false] (fun act w1 => ∃ (gT : Nat) (aH : Option Addr) (cH : Nat) (lo : Nat) (hi : Nat) (qB : Nat), act = (⟨#[.agg #[.int .i64 id, .int .i64 a, .int .i64 b, .int .i64 c, .slice av n cn], .agg #[.int .i64 ok, .int .i64 ot, .int .i64 oa, .int .i64 ob, .string os, .int .i64 oc, .int .i64 oe], .int .i64 now, .pointer (some ⟨gA, 0, none⟩), .pointer (some ⟨gE, 0, none⟩), undef, u6, .int .i64 (r - (os.size : Int)), .pointer (some ⟨gW, 0, none⟩), .pointer (some ⟨gVW, 0, none⟩), .int .i64 kc, .pointer (some ⟨gY, 0, none⟩), .pointer (some ⟨gG, 0, none⟩), .pointer (some ⟨gVG, 0, none⟩), .int .i64 kc, .int .i64 (1 + 13 * (n : Int)), .int .i64 (1 + 13 * (q : Int)), .int .i64 (1 + 13 * (q : Int)), undef, .pointer (some ⟨qB, 0, none⟩), undef, u21, u22, u23, u24, u25, u26, u27, u28, u29, u30, u31, u32, u33, u34, u35, u36, u37, u38, u39, u40, u41, u42, u43, u44, u45, u46, u47, u48, u49, u50, u51, u52, u53, u54, u55, u56, u57, u58, u59, u60, u61, u62, u63, u64, u65, u66, u67, u68, u69, u70, u71, u72, u73, u74, u75, u76, u77, u78, u79, u80, u81, u82, u83, u84, u85, u86, u87, u88, u89, u90, u91, u92, u93, u94, u95, u96, u97, u98, u99, u100, u101, u102, u103, u104, .tuple #[.agg #[.int .i64 t.id, .int .i64 t.a, .int .i64 t.b, .int .i64 t.c, .slice aH q cH], .agg #[.int .i64 u.dr, .int .i64 u.dn, .int .i64 u.sw, .int .i64 u.sc, .int .i64 u.sr, .int .i64 u.k, .int .i64 u.tr, .int .i64 u.id, .int .i64 u.pa, .string u.s, .int .i64 u.st, .int .i64 u.en, .int .i64 u.lv], .int .i64 kc], .agg #[.int .i64 id, .int .i64 a, .int .i64 b, .int .i64 c, .slice av n cn], .agg #[.int .i64 id, .int .i64 a, .int .i64 b, .int .i64 c, .slice (some ⟨gT, 0, none⟩) n n], .agg #[.int .i64 ok, .int .i64 ot, .int .i64 oa, .int .i64 ob, .string os, .int .i64 oc, .int .i64 oe], .agg #[.int .i64 ok, .int .i64 ot, .int .i64 oa, .int .i64 ob, .string os, .int .i64 oc, .int .i64 oe], .int .i64 now, .tuple #[.agg #[.int .i64 t.id, .int .i64 t.a, .int .i64 t.b, .int .i64 t.c, .slice aH q cH], .agg #[.int .i64 u.dr, .int .i64 u.dn, .int .i64 u.sw, .int .i64 u.sc, .int .i64 u.sr, .int .i64 u.k, .int .i64 u.tr, .int .i64 u.id, .int .i64 u.pa, .string u.s, .int .i64 u.st, .int .i64 u.en, .int .i64 u.lv], .int .i64 kc], .agg #[.int .i64 t.id, .int .i64 t.a, .int .i64 t.b, .int .i64 t.c, .slice aH q cH], .agg #[.int .i64 u.dr, .int .i64 u.dn, .int .i64 u.sw, .int .i64 u.sc, .int .i64 u.sr, .int .i64 u.k, .int .i64 u.tr, .int .i64 u.id, .int .i64 u.pa, .string u.s, .int .i64 u.st, .int .i64 u.en, .int .i64 u.lv], .int .i64 kc, u115, u116, u117, u118, u119, u120, u121, u122, u123, u124, u125, u126, u127, u128, u129, u130, u131, u132, u133, u134, u135, u136, u137], []⟩ : Act) ∧ MU w1 aH q cH lo hi (ucell t.us) ∧ w15.heap.size ≤ lo ∧ lo ≤ hi ∧ hi ≤ w1.heap.size ∧ RowAt w1 qB 13 (uq M1.zeroU) ∧ w15.heap.size ≤ qB ∧ (qB < lo ∨ hi ≤ qB)) ?_ (fun st301 => ?_)
                · rintro act w1 ⟨gT, aH, cH, lo, hi, qB, rfl, m1, m2, m3, m4, r1, r2, r3⟩ hS
                  refine wpAnyH_ready (rs := [10]) (by kernel_rfl) (by simp) ?_
                  refine (AllReadyH.cons (o := _) rfl (fun K hK => ?_) AllReadyH.nil)
                  · go_simp
                    have hb2 : Below w1.heap.size w1 (w1.alloc (.cells #[.int .i64 0, .int .i64 0, .int .i64 0, .int .i64 0, .slice none 0 0] 28)) := (Below.refl _ _).alloc (Nat.le_refl _) _
                    have n1 : RgAt (w1.alloc (.cells #[.int .i64 0, .int .i64 0, .int .i64 0, .int .i64 0, .slice none 0 0] 28)) w1.heap.size 0 0 0 0 none 0 0 := rg_new w1 0 0 0 0 none 0 0 28
                    refine hK.out _ _ (kp_alloc hS _) (fun hS2 => ?_)
                    clear hK
                    (try simp only [Act.put, aZ, bZ, cZ, dZ, eZ, fZ])
                    exact st311.out _ _ ⟨gT, aH, cH, lo, hi, w1.heap.size, qB, rfl, (m1.below hb2), m2, m3, (Nat.le_trans m4 hb2.size), n1, hS.1.size, (.inr m4), (RowAt.below r1 hb2), r2, r3, (by have := r1.lt; omega)⟩ hS2
                refine have_state 4 #[true, true, true, true, true, true, true, true, true, true, true, false, false, false, false] (fun act w1 => ∃ (gT : Nat) (aH : Option Addr) (cH : Nat) (lo : Nat) (hi : Nat) (qA : Nat), act = (⟨#[.agg #[.int .i64 id, .int .i64 a, .int .i64 b, .int .i64 c, .slice av n cn], .agg #[.int .i64 ok, .int .i64 ot, .int .i64 oa, .int .i64 ob, .string os, .int .i64 oc, .int .i64 oe], .int .i64 now, .pointer (some ⟨gA, 0, none⟩), .pointer (some ⟨gE, 0, none⟩), undef, u6, .int .i64 (r - (os.size : Int)), .pointer (some ⟨gW, 0, none⟩), .pointer (some ⟨gVW, 0, none⟩), .int .i64 kc, .pointer (some ⟨gY, 0, none⟩), .pointer (some ⟨gG, 0, none⟩), .pointer (some ⟨gVG, 0, none⟩), .int .i64 kc, .int .i64 (1 + 13 * (n : Int)), .int .i64 (1 + 13 * (q : Int)), .int .i64 (1 + 13 * (q : Int)), .pointer (some ⟨qA, 0, none⟩), undef, undef, u21, u22, u23, u24, u25, u26, u27, u28, u29, u30, u31, u32, u33, u34, u35, u36, u37, u38, u39, u40, u41, u42, u43, u44, u45, u46, u47, u48, u49, u50, u51, u52, u53, u54, u55, u56, u57, u58, u59, u60, u61, u62, u63, u64, u65, u66, u67, u68, u69, u70, u71, u72, u73, u74, u75, u76, u77, u78, u79, u80, u81, u82, u83, u84, u85, u86, u87, u88, u89, u90, u91, u92, u93, u94, u95, u96, u97, u98, u99, u100, u101, u102, u103, u104, .tuple #[.agg #[.int .i64 t.id, .int .i64 t.a, .int .i64 t.b, .int .i64 t.c, .slice aH q cH], .agg #[.int .i64 u.dr, .int .i64 u.dn, .int .i64 u.sw, .int .i64 u.sc, .int .i64 u.sr, .int .i64 u.k, .int .i64 u.tr, .int .i64 u.id, .int .i64 u.pa, .string u.s, .int .i64 u.st, .int .i64 u.en, .int .i64 u.lv], .int .i64 kc], .agg #[.int .i64 id, .int .i64 a, .int .i64 b, .int .i64 c, .slice av n cn], .agg #[.int .i64 id, .int .i64 a, .int .i64 b, .int .i64 c, .slice (some ⟨gT, 0, none⟩) n n], .agg #[.int .i64 ok, .int .i64 ot, .int .i64 oa, .int .i64 ob, .string os, .int .i64 oc, .int .i64 oe], .agg #[.int .i64 ok, .int .i64 ot, .int .i64 oa, .int .i64 ob, .string os, .int .i64 oc, .int .i64 oe], .int .i64 now, .tuple #[.agg #[.int .i64 t.id, .int .i64 t.a, .int .i64 t.b, .int .i64 t.c, .slice aH q cH], .agg #[.int .i64 u.dr, .int .i64 u.dn, .int .i64 u.sw, .int .i64 u.sc, .int .i64 u.sr, .int .i64 u.k, .int .i64 u.tr, .int .i64 u.id, .int .i64 u.pa, .string u.s, .int .i64 u.st, .int .i64 u.en, .int .i64 u.lv], .int .i64 kc], .agg #[.int .i64 t.id, .int .i64 t.a, .int .i64 t.b, .int .i64 t.c, .slice aH q cH], .agg #[.int .i64 u.dr, .int .i64 u.dn, .int .i64 u.sw, .int .i64 u.sc, .int .i64 u.sr, .int .i64 u.k, .int .i64 u.tr, .int .i64 u.id, .int .i64 u.pa, .string u.s, .int .i64 u.st, .int .i64 u.en, .int .i64 u.lv], .int .i64 kc, u115, u116, u117, u118, u119, u120, u121, u122, u123, u124, u125, u126, u127, u128, u129, u130, u131, u132, u133, u134, u135, u136, u137], []⟩ : Act) ∧ MU w1 aH q cH lo hi (ucell t.us) ∧ w15.heap.size ≤ lo ∧ lo ≤ hi ∧ hi ≤ w1.heap.size ∧ RgAt w1 qA 0 0 0 0 none 0 0 ∧ w15.heap.size ≤ qA ∧ (qA < lo ∨ hi ≤ qA)) ?_ (fun st310 => ?_)
                · rintro act w1 ⟨gT, aH, cH, lo, hi, qA, rfl, m1, m2, m3, m4, p1, p2, p3⟩ hS
                  refine wpAnyH_ready (rs := [11]) (by kernel_rfl) (by simp) ?_
                  refine (AllReadyH.cons (o := _) rfl (fun K hK => ?_) AllReadyH.nil)
                  · go_simp
                    have hb2 : Below w1.heap.size w1 (w1.alloc (.cells #[.int .i64 0, .int .i64 0, .int .i64 0, .int .i64 0, .int .i64 0, .int .i64 0, .int .i64 0, .int .i64 0, .int .i64 0, .string ⟨#[]⟩, .int .i64 0, .int .i64 0, .int .i64 0] 38)) := (Below.refl _ _).alloc (Nat.le_refl _) _
                    have n1 : RowAt (w1.alloc (.cells #[.int .i64 0, .int .i64 0, .int .i64 0, .int .i64 0, .int .i64 0, .int .i64 0, .int .i64 0, .int .i64 0, .int .i64 0, .string ⟨#[]⟩, .int .i64 0, .int .i64 0, .int .i64 0] 38)) w1.heap.size 13 (uq M1.zeroU) := uq_new w1 M1.zeroU 38
                    refine hK.out _ _ (kp_alloc hS _) (fun hS2 => ?_)
                    clear hK
                    (try simp only [Act.put, aZ, bZ, cZ, dZ, eZ, fZ])
                    exact st311.out _ _ ⟨gT, aH, cH, lo, hi, qA, w1.heap.size, rfl, (m1.below hb2), m2, m3, (Nat.le_trans m4 hb2.size), (RowAt.below p1 hb2), p2, p3, n1, hS.1.size, (.inr m4), (by have := p1.lt; omega)⟩ hS2
                refine have_state 9 #[true, true, true, false, true, false, false, false, false, false, true, true, false, false, false] (fun act w1 => ∃ (gT : Nat) (qA : Nat) (qB : Nat), act = (⟨#[.agg #[.int .i64 id, .int .i64 a, .int .i64 b, .int .i64 c, .slice av n cn], .agg #[.int .i64 ok, .int .i64 ot, .int .i64 oa, .int .i64 ob, .string os, .int .i64 oc, .int .i64 oe], .int .i64 now, .pointer (some ⟨gA, 0, none⟩), .pointer (some ⟨gE, 0, none⟩), undef, u6, .int .i64 (r - (os.size : Int)), .pointer (some ⟨gW, 0, none⟩), .pointer (some ⟨gVW, 0, none⟩), .int .i64 kc, .pointer (some ⟨gY, 0, none⟩), .pointer (some ⟨gG, 0, none⟩), .pointer (some ⟨gVG, 0, none⟩), .int .i64 kc, .int .i64 (1 + 13 * (n : Int)), .int .i64 (1 + 13 * (q : Int)), .int .i64 (1 + 13 * (q : Int)), .pointer (some ⟨qA, 0, none⟩), .pointer (some ⟨qB, 0, none⟩), undef, u21, u22, u23, u24, u25, u26, u27, u28, u29, u30, u31, u32, u33, u34, u35, u36, u37, u38, u39, u40, u41, u42, u43, u44, u45, u46, u47, u48, u49, u50, u51, u52, u53, u54, u55, u56, u57, u58, u59, u60, u61, u62, u63, u64, u65, u66, u67, u68, u69, u70, u71, u72, u73, u74, u75, u76, u77, u78, u79, u80, u81, u82, u83, u84, u85, u86, u87, u88, u89, u90, u91, u92, u93, u94, u95, u96, u97, u98, u99, u100, u101, u102, u103, u104, u105, .agg #[.int .i64 id, .int .i64 a, .int .i64 b, .int .i64 c, .slice av n cn], .agg #[.int .i64 id, .int .i64 a, .int .i64 b, .int .i64 c, .slice (some ⟨gT, 0, none⟩) n n], .agg #[.int .i64 ok, .int .i64 ot, .int .i64 oa, .int .i64 ob, .string os, .int .i64 oc, .int .i64 oe], u109, .int .i64 now, u111, u112, u113, u114, u115, u116, u117, u118, u119, u120, u121, u122, u123, u124, u125, u126, u127, u128, u129, u130, u131, u132, u133, u134, u135, u136, u137], []⟩ : Act) ∧ RowAt w1 gT (n * 13) (ucell us) ∧ RgAt w1 qA 0 0 0 0 none 0 0 ∧ w15.heap.size ≤ qA ∧ RowAt w1 qB 13 (uq M1.zeroU) ∧ w15.heap.size ≤ qB ∧ ¬ qA = qB) ?_ (fun st111 => ?_)
                · rintro act w1 ⟨gT, qA, qB, rfl, T1, p1, p2, r1, r2, pr⟩ hS
                  refine wpAnyH_ready (rs := [3]) (by kernel_rfl) (by simp) ?_
                  refine (AllReadyH.cons (o := _) rfl (fun K hK => ?_) AllReadyH.nil)
                  · go_simp
                    refine (toOp_any ok ot oa ob oc oe os _).mono ?_
                    rintro e w2 ⟨rfl, hb2⟩
                    go_wp2_with fail
                    refine hK.out _ _ (kp_step hS hb2) (fun hS2 => ?_)
                    clear hK
                    (try simp only [Act.put, aZ, bZ, cZ, dZ, eZ, fZ])
                    exact st211.out _ _ ⟨gT, qA, qB, rfl, (T1.below hb2), (RowAt.below p1 hb2), p2, (RowAt.below r1 hb2), r2, pr⟩ hS2
                refine have_state 9 #[true, true, true, true, true, false, false, false, false, false, false, true, false, false, false] (fun act w1 => ∃ (gT : Nat) (qB : Nat), act = (⟨#[.agg #[.int .i64 id, .int .i64 a, .int .i64 b, .int .i64 c, .slice av n cn], .agg #[.int .i64 ok, .int .i64 ot, .int .i64 oa, .int .i64 ob, .string os, .int .i64 oc, .int .i64 oe], .int .i64 now, .pointer (some ⟨gA, 0, none⟩), .pointer (some ⟨gE, 0, none⟩), undef, u6, .int .i64 (r - (os.size : Int)), .pointer (some ⟨gW, 0, none⟩), .pointer (some ⟨gVW, 0, none⟩), .int .i64 kc, .pointer (some ⟨gY, 0, none⟩), .pointer (some ⟨gG, 0, none⟩), .pointer (some ⟨gVG, 0, none⟩), .int .i64 kc, .int .i64 (1 + 13 * (n : Int)), .int .i64 (1 + 13 * (q : Int)), .int .i64 (1 + 13 * (q : Int)), undef, .pointer (some ⟨qB, 0, none⟩), undef, u21, u22, u23, u24, u25, u26, u27, u28, u29, u30, u31, u32, u33, u34, u35, u36, u37, u38, u39, u40, u41, u42, u43, u44, u45, u46, u47, u48, u49, u50, u51, u52, u53, u54, u55, u56, u57, u58, u59, u60, u61, u62, u63, u64, u65, u66, u67, u68, u69, u70, u71, u72, u73, u74, u75, u76, u77, u78, u79, u80, u81, u82, u83, u84, u85, u86, u87, u88, u89, u90, u91, u92, u93, u94, u95, u96, u97, u98, u99, u100, u101, u102, u103, u104, u105, .agg #[.int .i64 id, .int .i64 a, .int .i64 b, .int .i64 c, .slice av n cn], .agg #[.int .i64 id, .int .i64 a, .int .i64 b, .int .i64 c, .slice (some ⟨gT, 0, none⟩) n n], .agg #[.int .i64 ok, .int .i64 ot, .int .i64 oa, .int .i64 ob, .string os, .int .i64 oc, .int .i64 oe], .agg #[.int .i64 ok, .int .i64 ot, .int .i64 oa, .int .i64 ob, .string os, .int .i64 oc, .int .i64 oe], .int .i64 now, u111, u112, u113, u114, u115, u116, u117, u118, u119, u120, u121, u122, u123, u124, u125, u126, u127, u128, u129, u130, u131, u132, u133, u134, u135, u136, u137], []⟩ : Act) ∧ RowAt w1 gT (n * 13) (ucell us) ∧ RowAt w1 qB 13 (uq M1.zeroU) ∧ w15.heap.size ≤ qB) ?_ (fun st201 => ?_)
                · rintro act w1 ⟨gT, qB, rfl, T1, r1, r2⟩ hS
                  refine wpAnyH_ready (rs := [5, 10]) (by kernel_rfl) (by simp) ?_
                  refine (AllReadyH.cons (o := _) rfl (fun K hK => ?_) (AllReadyH.cons (o := _) rfl (fun K hK => ?_) AllReadyH.nil))
                  · go_simp
                    have js := issued_impl s0 s1 s2 s3 s4 ⟨id, a, b, c, us⟩ ⟨ok, ot, oa, ob, os, oc, oe⟩ now _ _ _ _ (S.below (B15.trans (hS.1.mono B15.size))) (isUpds_of_row HL1.out (Nat.le_refl _) (by unfold maxLen; omega) HT1.out T1) ho
                    unfold IsS RgD at js
                    rw [HX.out, HU.out, HK.out, HQ.out] at js
                    refine js.mono ?_
                    clear js
                    rintro e w2 ⟨⟨_, rfl, aH, cH, rfl, m1⟩, hb2⟩
                    go_wp2_with fail
                    refine hK.out _ _ (kp_step hS hb2) (fun hS2 => ?_)
                    clear hK
                    (try simp only [Act.put, aZ, bZ, cZ, dZ, eZ, fZ])
                    refine wpAnyH_take (i := 6) (v := ?_) rfl (by kernel_rfl) (by kernel_rfl) (by kernel_rfl) (fun _ _ _ h => h) (Or.inl ⟨by rfl, ?_⟩) hS2 ?_
                    rotate_left
                    · (intro w hSw; (try dsimp only at hSw); go_simp; try (with_reducible rfl))
                    (try simp only [Act.put, aZ, bZ, cZ, dZ, eZ, fZ])
                    refine wpAnyH_take (i := 7) (v := ?_) rfl (by kernel_rfl) (by kernel_rfl) (by kernel_rfl) (fun _ _ _ h => h) (Or.inl ⟨by rfl, ?_⟩) hS2 ?_
                    rotate_left
                    · (intro w hSw; (try dsimp only at hSw); go_simp; try (with_reducible rfl))
                    (try simp only [Act.put, aZ, bZ, cZ, dZ, eZ, fZ])
                    refine wpAnyH_take (i := 8) (v := ?_) rfl (by kernel_rfl) (by kernel_rfl) (by kernel_rfl) (fun _ _ _ h => h) (Or.inl ⟨by rfl, ?_⟩) hS2 ?_
                    rotate_left
                    · (intro w hSw; (try dsimp only at hSw); go_simp; try (with_reducible rfl))
                    (try simp only [Act.put, aZ, bZ, cZ, dZ, eZ, fZ])
                    refine wpAnyH_take (i := 9) (v := ?_) rfl (by kernel_rfl) (by kernel_rfl) (by kernel_rfl) (fun _ _ _ h => h) (Or.inl ⟨by rfl, ?_⟩) hS2 ?_
                    rotate_left
                    · (intro w hSw; (try dsimp only at hSw); go_simp; try (with_reducible rfl))
                    (try simp only [Act.put, aZ, bZ, cZ, dZ, eZ, fZ])
                    exact st301.out _ _ ⟨gT, aH, cH, w1.heap.size, w2.heap.size, qB, rfl, m1, hS.1.size, hb2.size, (Nat.le_refl _), (RowAt.below r1 hb2), r2, (.inl r1.lt)⟩ hS2
                  · go_simp
                    have hb2 : Below w1.heap.size w1 (w1.alloc (.cells #[.int .i64 0, .int .i64 0, .int .i64 0, .int .i64 0, .slice none 0 0] 28)) := (Below.refl _ _).alloc (Nat.le_refl _) _
                    have n1 : RgAt (w1.alloc (.cells #[.int .i64 0, .int .i64 0, .int .i64 0, .int .i64 0, .slice none 0 0] 28)) w1.heap.size 0 0 0 0 none 0 0 := rg_new w1 0 0 0 0 none 0 0 28
                    refine hK.out _ _ (kp_alloc hS _) (fun hS2 => ?_)
                    clear hK
                    (try simp only [Act.put, aZ, bZ, cZ, dZ, eZ, fZ])
                    exact st211.out _ _ ⟨gT, w1.heap.size, qB, rfl, (T1.below hb2), n1, hS.1.size, (RowAt.below r1 hb2), r2, (by have := r1.lt; omega)⟩ hS2
                refine have_state 9 #[true, true, true, true, true, false, false, false, false, false, true, false, false, false, false] (fun act w1 => ∃ (gT : Nat) (qA : Nat), act = (⟨#[.agg #[.int .i64 id, .int .i64 a, .int .i64 b, .int .i64 c, .slice av n cn], .agg #[.int .i64 ok, .int .i64 ot, .int .i64 oa, .int .i64 ob, .string os, .int .i64 oc, .int .i64 oe], .int .i64 now, .pointer (some ⟨gA, 0, none⟩), .pointer (some ⟨gE, 0, none⟩), undef, u6, .int .i64 (r - (os.size : Int)), .pointer (some ⟨gW, 0, none⟩), .pointer (some ⟨gVW, 0, none⟩), .int .i64 kc, .pointer (some ⟨gY, 0, none⟩), .pointer (some ⟨gG, 0, none⟩), .pointer (some ⟨gVG, 0, none⟩), .int .i64 kc, .int .i64 (1 + 13 * (n : Int)), .int .i64 (1 + 13 * (q : Int)), .int .i64 (1 + 13 * (q : Int)), .pointer (some ⟨qA, 0, none⟩), undef, undef, u21, u22, u23, u24, u25, u26, u27, u28, u29, u30, u31, u32, u33, u34, u35, u36, u37, u38, u39, u40, u41, u42, u43, u44, u45, u46, u47, u48, u49, u50, u51, u52, u53, u54, u55, u56, u57, u58, u59, u60, u61, u62, u63, u64, u65, u66, u67, u68, u69, u70, u71, u72, u73, u74, u75, u76, u77, u78, u79, u80, u81, u82, u83, u84, u85, u86, u87, u88, u89, u90, u91, u92, u93, u94, u95, u96, u97, u98, u99, u100, u101, u102, u103, u104, u105, .agg #[.int .i64 id, .int .i64 a, .int .i64 b, .int .i64 c, .slice av n cn], .agg #[.int .i64 id, .int .i64 a, .int .i64 b, .int .i64 c, .slice (some ⟨gT, 0, none⟩) n n], .agg #[.int .i64 ok, .int .i64 ot, .int .i64 oa, .int .i64 ob, .string os, .int .i64 oc, .int .i64 oe], .agg #[.int .i64 ok, .int .i64 ot, .int .i64 oa, .int .i64 ob, .string os, .int .i64 oc, .int .i64 oe], .int .i64 now, u111, u112, u113, u114, u115, u116, u117, u118, u119, u120, u121, u122, u123, u124, u125, u126, u127, u128, u129, u130, u131, u132, u133, u134, u135, u136, u137], []⟩ : Act) ∧ RowAt w1 gT (n * 13) (ucell us) ∧ RgAt w1 qA 0 0 0 0 none 0 0 ∧ w15.heap.size ≤ qA) ?_ (fun st210 => ?_)
                · rintro act w1 ⟨gT, qA, rfl, T1, p1, p2⟩ hS
                  refine wpAnyH_ready (rs := [5, 11]) (by kernel_rfl) (by simp) ?_
                  refine (AllReadyH.cons (o := _) rfl (fun K hK => ?_) (AllReadyH.cons (o := _) rfl (fun K hK => ?_) AllReadyH.nil))
                  · go_simp
                    have js := issued_impl s0 s1 s2 s3 s4 ⟨id, a, b, c, us⟩ ⟨ok, ot, oa, ob, os, oc, oe⟩ now _ _ _ _ (S.below (B15.trans (hS.1.mono B15.size))) (isUpds_of_row HL1.out (Nat.le_refl _) (by unfold maxLen; omega) HT1.out T1) ho
                    unfold IsS RgD at js
                    rw [HX.out, HU.out, HK.out, HQ.out] at js
                    refine js.mono ?_
                    clear js
                    rintro e w2 ⟨⟨_, rfl, aH, cH, rfl, m1⟩, hb2⟩
                    go_wp2_with fail
                    refine hK.out _ _ (kp_step hS hb2) (fun hS2 => ?_)
                    clear hK
                    (try simp only [Act.put, aZ, bZ, cZ, dZ, eZ, fZ])
                    refine wpAnyH_take (i := 6) (v := ?_) rfl (by kernel_rfl) (by kernel_rfl) (by kernel_rfl) (fun _ _ _ h => h) (Or.inl ⟨by rfl, ?_⟩) hS2 ?_
                    rotate_left
                    · (intro w hSw; (try dsimp only at hSw); go_simp; try (with_reducible rfl))
                    (try simp only [Act.put, aZ, bZ, cZ, dZ, eZ, fZ])
                    refine wpAnyH_take (i := 7) (v := ?_) rfl (by kernel_rfl) (by kernel_rfl) (by kernel_rfl) (fun _ _ _ h => h) (Or.inl ⟨by rfl, ?_⟩) hS2 ?_
                    rotate_left
                    · (intro w hSw; (try dsimp only at hSw); go_simp; try (with_reducible rfl))
                    (try simp only [Act.put, aZ, bZ, cZ, dZ, eZ, fZ])
                    refine wpAnyH_take (i := 8) (v := ?_) rfl (by kernel_rfl) (by kernel_rfl) (by kernel_rfl) (fun _ _ _ h => h) (Or.inl ⟨by rfl, ?_⟩) hS2 ?_
                    rotate_left
                    · (intro w hSw; (try dsimp only at hSw); go_simp; try (with_reducible rfl))
                    (try simp only [Act.put, aZ, bZ, cZ, dZ, eZ, fZ])
                    refine wpAnyH_take (i := 9) (v := ?_) rfl (by kernel_rfl) (by kernel_rfl) (by kernel_rfl) (fun _ _ _ h => h) (Or.inl ⟨by rfl, ?_⟩) hS2 ?_
                    rotate_left
                    · (intro w hSw; (try dsimp only at hSw); go_simp; try (with_reducible rfl))
                    (try simp only [Act.put, aZ, bZ, cZ, dZ, eZ, fZ])
                    exact st310.out _ _ ⟨gT, aH, cH, w1.heap.size, w2.heap.size, qA, rfl, m1, hS.1.size, hb2.size, (Nat.le_refl _), (RowAt.below p1 hb2), p2, (.inl p1.lt)⟩ hS2
                  · go_simp
                    have hb2 : Below w1.heap.size w1 (w1.alloc (.cells #[.int .i64 0, .int .i64 0, .int .i64 0, .int .i64 0, .int .i64 0, .int .i64 0, .int .i64 0, .int .i64 0, .int .i64 0, .string ⟨#[]⟩, .int .i64 0, .int .i64 0, .int .i64 0] 38)) := (Below.refl _ _).alloc (Nat.le_refl _) _
                    have n1 : RowAt (w1.alloc (.cells #[.int .i64 0, .int .i64 0, .int .i64 0, .int .i64 0, .int .i64 0, .int .i64 0, .int .i64 0, .int .i64 0, .int .i64 0, .string ⟨#[]⟩, .int .i64 0, .int .i64 0, .int .i64 0] 38)) w1.heap.size 13 (uq M1.zeroU) := uq_new w1 M1.zeroU 38
                    refine hK.out _ _ (kp_alloc hS _) (fun hS2 => ?_)
                    clear hK
                    (try simp only [Act.put, aZ, bZ, cZ, dZ, eZ, fZ])
                    exact st211.out _ _ ⟨gT, qA, w1.heap.size, rfl, (T1.below hb2), (RowAt.below p1 hb2), p2, n1, hS.1.size, (by have := p1.lt; omega)⟩ hS2
                refine have_state 5 #[true, true, true, true, true, true, true, true, true, true, false, false, false, false, false] (fun act w1 => ∃ (gT : Nat) (aH : Option Addr) (cH : Nat) (lo : Nat) (hi : Nat), act = (⟨#[.agg #[.int .i64 id, .int .i64 a, .int .i64 b, .int .i64 c, .slice av n cn], .agg #[.int .i64 ok, .int .i64 ot, .int .i64 oa, .int .i64 ob, .string os, .int .i64 oc, .int .i64 oe], .int .i64 now, .pointer (some ⟨gA, 0, none⟩), .pointer (some ⟨gE, 0, none⟩), undef, u6, .int .i64 (r - (os.size : Int)), .pointer (some ⟨gW, 0, none⟩), .pointer (some ⟨gVW, 0, none⟩), .int .i64 kc, .pointer (some ⟨gY, 0, none⟩), .pointer (some ⟨gG, 0, none⟩), .pointer (some ⟨gVG, 0, none⟩), .int .i64 kc, .int .i64 (1 + 13 * (n : Int)), .int .i64 (1 + 13 * (q : Int)), .int .i64 (1 + 13 * (q : Int)), undef, undef, undef, u21, u22, u23, u24, u25, u26, u27, u28, u29, u30, u31, u32, u33, u34, u35, u36, u37, u38, u39, u40, u41, u42, u43, u44, u45, u46, u47, u48, u49, u50, u51, u52, u53, u54, u55, u56, u57, u58, u59, u60, u61, u62, u63, u64, u65, u66, u67, u68, u69, u70, u71, u72, u73, u74, u75, u76, u77, u78, u79, u80, u81, u82, u83, u84, u85, u86, u87, u88, u89, u90, u91, u92, u93, u94, u95, u96, u97, u98, u99, u100, u101, u102, u103, u104, .tuple #[.agg #[.int .i64 t.id, .int .i64 t.a, .int .i64 t.b, .int .i64 t.c, .slice aH q cH], .agg #[.int .i64 u.dr, .int .i64 u.dn, .int .i64 u.sw, .int .i64 u.sc, .int .i64 u.sr, .int .i64 u.k, .int .i64 u.tr, .int .i64 u.id, .int .i64 u.pa, .string u.s, .int .i64 u.st, .int .i64 u.en, .int .i64 u.lv], .int .i64 kc], .agg #[.int .i64 id, .int .i64 a, .int .i64 b, .int .i64 c, .slice av n cn], .agg #[.int .i64 id, .int .i64 a, .int .i64 b, .int .i64 c, .slice (some ⟨gT, 0, none⟩) n n], .agg #[.int .i64 ok, .int .i64 ot, .int .i64 oa, .int .i64 ob, .string os, .int .i64 oc, .int .i64 oe], .agg #[.int .i64 ok, .int .i64 ot, .int .i64 oa, .int .i64 ob, .string os, .int .i64 oc, .int .i64 oe], .int .i64 now, .tuple #[.agg #[.int .i64 t.id, .int .i64 t.a, .int .i64 t.b, .int .i64 t.c, .slice aH q cH], .agg #[.int .i64 u.dr, .int .i64 u.dn, .int .i64 u.sw, .int .i64 u.sc, .int .i64 u.sr, .int .i64 u.k, .int .i64 u.tr, .int .i64 u.id, .int .i64 u.pa, .string u.s, .int .i64 u.st, .int .i64 u.en, .int .i64 u.lv], .int .i64 kc], .agg #[.int .i64 t.id, .int .i64 t.a, .int .i64 t.b, .int .i64 t.c, .slice aH q cH], .agg #[.int .i64 u.dr, .int .i64 u.dn, .int .i64 u.sw, .int .i64 u.sc, .int .i64 u.sr, .int .i64 u.k, .int .i64 u.tr, .int .i64 u.id, .int .i64 u.pa, .string u.s, .int .i64 u.st, .int .i64 u.en, .int .i64 u.lv], .int .i64 kc, u115, u116, u117, u118, u119, u120, u121, u122, u123, u124, u125, u126, u127, u128, u129, u130, u131, u132, u133, u134, u135, u136, u137], []⟩ : Act) ∧ MU w1 aH q cH lo hi (ucell t.us) ∧ w15.heap.size ≤ lo ∧ lo ≤ hi ∧ hi ≤ w1.heap.size) ?_ (fun st300 => ?_)
                · rintro act w1 ⟨gT, aH, cH, lo, hi, rfl, m1, m2, m3, m4⟩ hS
                  refine wpAnyH_ready (rs := [10, 11]) (by kernel_rfl) (by simp) ?_
                  refine (AllReadyH.cons (o := _) rfl (fun K hK => ?_) (AllReadyH.cons (o := _) rfl (fun K hK => ?_) AllReadyH.nil))
                  · go_simp
                    have hb2 : Below w1.heap.size w1 (w1.alloc (.cells #[.int .i64 0, .int .i64 0, .int .i64 0, .int .i64 0, .slice none 0 0] 28)) := (Below.refl _ _).alloc (Nat.le_refl _) _
                    have n1 : RgAt (w1.alloc (.cells #[.int .i64 0, .int .i64 0, .int .i64 0, .int .i64 0, .slice none 0 0] 28)) w1.heap.size 0 0 0 0 none 0 0 := rg_new w1 0 0 0 0 none 0 0 28
                    refine hK.out _ _ (kp_alloc hS _) (fun hS2 => ?_)
                    clear hK
                    (try simp only [Act.put, aZ, bZ, cZ, dZ, eZ, fZ])
                    exact st310.out _ _ ⟨gT, aH, cH, lo, hi, w1.heap.size, rfl, (m1.below hb2), m2, m3, (Nat.le_trans m4 hb2.size), n1, hS.1.size, (.inr m4)⟩ hS2
                  · go_simp
                    have hb2 : Below w1.heap.size w1 (w1.alloc (.cells #[.int .i64 0, .int .i64 0, .int .i64 0, .int .i64 0, .int .i64 0, .int .i64 0, .int .i64 0, .int .i64 0, .int .i64 0, .string ⟨#[]⟩, .int .i64 0, .int .i64 0, .int .i64 0] 38)) := (Below.refl _ _).alloc (Nat.le_refl _) _
                    have n1 : RowAt (w1.alloc (.cells #[.int .i64 0, .int .i64 0, .int .i64 0, .int .i64 0, .int .i64 0, .int .i64 0, .int .i64 0, .int .i64 0, .int .i64 0, .string ⟨#[]⟩, .int .i64 0, .int .i64 0, .int .i64 0] 38)) w1.heap.size 13 (uq M1.zeroU) := uq_new w1 M1.zeroU 38
                    refine hK.out _ _ (kp_alloc hS _) (fun hS2 => ?_)
                    clear hK
                    (try simp only [Act.put, aZ, bZ, cZ, dZ, eZ, fZ])
                    exact st301.out _ _ ⟨gT, aH, cH, lo, hi, w1.heap.size, rfl, (m1.below hb2), m2, m3, (Nat.le_trans m4 hb2.size), n1, hS.1.size, (.inr m4)⟩ hS2
                refine have_state 10 #[true, false, true, false, true, false, false, false, false, false, true, true, false, false, false] (fun act w1 => ∃ (qA : Nat) (qB : Nat), act = (⟨#[.agg #[.int .i64 id, .int .i64 a, .int .i64 b, .int .i64 c, .slice av n cn], .agg #[.int .i64 ok, .int .i64 ot, .int .i64 oa, .int .i64 ob, .string os, .int .i64 oc, .int .i64 oe], .int .i64 now, .pointer (some ⟨gA, 0, none⟩), .pointer (some ⟨gE, 0, none⟩), undef, u6, .int .i64 (r - (os.size : Int)), .pointer (some ⟨gW, 0, none⟩), .pointer (some ⟨gVW, 0, none⟩), .int .i64 kc, .pointer (some ⟨gY, 0, none⟩), .pointer (some ⟨gG, 0, none⟩), .pointer (some ⟨gVG, 0, none⟩), .int .i64 kc, .int .i64 (1 + 13 * (n : Int)), .int .i64 (1 + 13 * (q : Int)), .int .i64 (1 + 13 * (q : Int)), .pointer (some ⟨qA, 0, none⟩), .pointer (some ⟨qB, 0, none⟩), undef, u21, u22, u23, u24, u25, u26, u27, u28, u29, u30, u31, u32, u33, u34, u35, u36, u37, u38, u39, u40, u41, u42, u43, u44, u45, u46, u47, u48, u49, u50, u51, u52, u53, u54, u55, u56, u57, u58, u59, u60, u61, u62, u63, u64, u65, u66, u67, u68, u69, u70, u71, u72, u73, u74, u75, u76, u77, u78, u79, u80, u81, u82, u83, u84, u85, u86, u87, u88, u89, u90, u91, u92, u93, u94, u95, u96, u97, u98, u99, u100, u101, u102, u103, u104, u105, .agg #[.int .i64 id, .int .i64 a, .int .i64 b, .int .i64 c, .slice av n cn], u107, .agg #[.int .i64 ok, .int .i64 ot, .int .i64 oa, .int .i64 ob, .string os, .int .i64 oc, .int .i64 oe], u109, .int .i64 now, u111, u112, u113, u114, u115, u116, u117, u118, u119, u120, u121, u122, u123, u124, u125, u126, u127, u128, u129, u130, u131, u132, u133, u134, u135, u136, u137], []⟩ : Act) ∧ RgAt w1 qA 0 0 0 0 none 0 0 ∧ w15.heap.size ≤ qA ∧ RowAt w1 qB 13 (uq M1.zeroU) ∧ w15.heap.size ≤ qB ∧ ¬ qA = qB) ?_ (fun st011 => ?_)
                · rintro act w1 ⟨qA, qB, rfl, p1, p2, r1, r2, pr⟩ hS
                  refine wpAnyH_ready (rs := [1]) (by kernel_rfl) (by simp) ?_
                  refine (AllReadyH.cons (o := _) rfl (fun K hK => ?_) AllReadyH.nil)
                  · go_simp
                    refine (toRegion_any id a b c _ _ _ _ _ ((h1.below B15).below hS.1) hn').mono ?_
                    rintro e w2 ⟨gT, rfl, hgT, T2, hb2⟩
                    go_wp2_with fail
                    refine hK.out _ _ (kp_step hS hb2) (fun hS2 => ?_)
                    clear hK
                    (try simp only [Act.put, aZ, bZ, cZ, dZ, eZ, fZ])
                    exact st111.out _ _ ⟨gT, qA, qB, rfl, T2, (RowAt.below p1 hb2), p2, (RowAt.below r1 hb2), r2, pr⟩ hS2
                refine have_state 10 #[true, true, true, false, true, false, false, false, false, false, false, true, false, false, false] (fun act w1 => ∃ (gT : Nat) (qB : Nat), act = (⟨#[.agg #[.int .i64 id, .int .i64 a, .int .i64 b, .int .i64 c, .slice av n cn], .agg #[.int .i64 ok, .int .i64 ot, .int .i64 oa, .int .i64 ob, .string os, .int .i64 oc, .int .i64 oe], .int .i64 now, .pointer (some ⟨gA, 0, none⟩), .pointer (some ⟨gE, 0, none⟩), undef, u6, .int .i64 (r - (os.size : Int)), .pointer (some ⟨gW, 0, none⟩), .pointer (some ⟨gVW, 0, none⟩), .int .i64 kc, .pointer (some ⟨gY, 0, none⟩), .pointer (some ⟨gG, 0, none⟩), .pointer (some ⟨gVG, 0, none⟩), .int .i64 kc, .int .i64 (1 + 13 * (n : Int)), .int .i64 (1 + 13 * (q : Int)), .int .i64 (1 + 13 * (q : Int)), undef, .pointer (some ⟨qB, 0, none⟩), undef, u21, u22, u23, u24, u25, u26, u27, u28, u29, u30, u31, u32, u33, u34, u35, u36, u37, u38, u39, u40, u41, u42, u43, u44, u45, u46, u47, u48, u49, u50, u51, u52, u53, u54, u55, u56, u57, u58, u59, u60, u61, u62, u63, u64, u65, u66, u67, u68, u69, u70, u71, u72, u73, u74, u75, u76, u77, u78, u79, u80, u81, u82, u83, u84, u85, u86, u87, u88, u89, u90, u91, u92, u93, u94, u95, u96, u97, u98, u99, u100, u101, u102, u103, u104, u105, .agg #[.int .i64 id, .int .i64 a, .int .i64 b, .int .i64 c, .slice av n cn], .agg #[.int .i64 id, .int .i64 a, .int .i64 b, .int .i64 c, .slice (some ⟨gT, 0, none⟩) n n], .agg #[.int .i64 ok, .int .i64 ot, .int .i64 oa, .int .i64 ob, .string os, .int .i64 oc, .int .i64 oe], u109, .int .i64 now, u111, u112, u113, u114, u115, u116, u117, u118, u119, u120, u121, u122, u123, u124, u125, u126, u127, u128, u129, u130, u131, u132, u133, u134, u135, u136, u137], []⟩ : Act) ∧ RowAt w1 gT (n * 13) (ucell us) ∧ RowAt w1 qB 13 (uq M1.zeroU) ∧ w15.heap.size ≤ qB) ?_ (fun st101 => ?_)
                · rintro act w1 ⟨gT, qB, rfl, T1, r1, r2⟩ hS
                  refine wpAnyH_ready (rs := [3, 10]) (by kernel_rfl) (by simp) ?_
                  refine (AllReadyH.cons (o := _) rfl (fun K hK => ?_) (AllReadyH.cons (o := _) rfl (fun K hK => ?_) AllReadyH.nil))
                  · go_simp
                    refine (toOp_any ok ot oa ob oc oe os _).mono ?_
                    rintro e w2 ⟨rfl, hb2⟩
                    go_wp2_with fail
                    refine hK.out _ _ (kp_step hS hb2) (fun hS2 => ?_)
                    clear hK
                    (try simp only [Act.put, aZ, bZ, cZ, dZ, eZ, fZ])
                    exact st201.out _ _ ⟨gT, qB, rfl, (T1.below hb2), (RowAt.below r1 hb2), r2⟩ hS2
                  · go_simp
                    have hb2 : Below w1.heap.size w1 (w1.alloc (.cells #[.int .i64 0, .int .i64 0, .int .i64 0, .int .i64 0, .slice none 0 0] 28)) := (Below.refl _ _).alloc (Nat.le_refl _) _
                    have n1 : RgAt (w1.alloc (.cells #[.int .i64 0, .int .i64 0, .int .i64 0, .int .i64 0, .slice none 0 0] 28)) w1.heap.size 0 0 0 0 none 0 0 := rg_new w1 0 0 0 0 none 0 0 28
                    refine hK.out _ _ (kp_alloc hS _) (fun hS2 => ?_)
                    clear hK
                    (try simp only [Act.put, aZ, bZ, cZ, dZ, eZ, fZ])
                    exact st111.out _ _ ⟨gT, w1.heap.size, qB, rfl, (T1.below hb2), n1, hS.1.size, (RowAt.below r1 hb2), r2, (by have := r1.lt; omega)⟩ hS2
                refine have_state 10 #[true, true, true, false, true, false, false, false, false, false, true, false, false, false, false] (fun act w1 => ∃ (gT : Nat) (qA : Nat), act = (⟨#[.agg #[.int .i64 id, .int .i64 a, .int .i64 b, .int .i64 c, .slice av n cn], .agg #[.int .i64 ok, .int .i64 ot, .int .i64 oa, .int .i64 ob, .string os, .int .i64 oc, .int .i64 oe], .int .i64 now, .pointer (some ⟨gA, 0, none⟩), .pointer (some ⟨gE, 0, none⟩), undef, u6, .int .i64 (r - (os.size : Int)), .pointer (some ⟨gW, 0, none⟩), .pointer (some ⟨gVW, 0, none⟩), .int .i64 kc, .pointer (some ⟨gY, 0, none⟩), .pointer (some ⟨gG, 0, none⟩), .pointer (some ⟨gVG, 0, none⟩), .int .i64 kc, .int .i64 (1 + 13 * (n : Int)), .int .i64 (1 + 13 * (q : Int)), .int .i64 (1 + 13 * (q : Int)), .pointer (some ⟨qA, 0, none⟩), undef, undef, u21, u22, u23, u24, u25, u26, u27, u28, u29, u30, u31, u32, u33, u34, u35, u36, u37, u38, u39, u40, u41, u42, u43, u44, u45, u46, u47, u48, u49, u50, u51, u52, u53, u54, u55, u56, u57, u58, u59, u60, u61, u62, u63, u64, u65, u66, u67, u68, u69, u70, u71, u72, u73, u74, u75, u76, u77, u78, u79, u80, u81, u82, u83, u84, u85, u86, u87, u88, u89, u90, u91, u92, u93, u94, u95, u96, u97, u98, u99, u100, u101, u102, u103, u104, u105, .agg #[.int .i64 id, .int .i64 a, .int .i64 b, .int .i64 c, .slice av n cn], .agg #[.int .i64 id, .int .i64 a, .int .i64 b, .int .i64 c, .slice (some ⟨gT, 0, none⟩) n n], .agg #[.int .i64 ok, .int .i64 ot, .int .i64 oa, .int .i64 ob, .string os, .int .i64 oc, .int .i64 oe], u109, .int .i64 now, u111, u112, u113, u114, u115, u116, u117, u118, u119, u120, u121, u122, u123, u124, u125, u126, u127, u128, u129, u130, u131, u132, u133, u134, u135, u136, u137], []⟩ : Act) ∧ RowAt w1 gT (n * 13) (ucell us) ∧ RgAt w1 qA 0 0 0 0 none 0 0 ∧ w15.heap.size ≤ qA) ?_ (fun st110 => ?_)
                · rintro act w1 ⟨gT, qA, rfl, T1, p1, p2⟩ hS
                  refine wpAnyH_ready (rs := [3, 11]) (by kernel_rfl) (by simp) ?_
                  refine (AllReadyH.cons (o := _) rfl (fun K hK => ?_) (AllReadyH.cons (o := _) rfl (fun K hK => ?_) AllReadyH.nil))
                  · go_simp
                    refine (toOp_any ok ot oa ob oc oe os _).mono ?_
                    rintro e w2 ⟨rfl, hb2⟩
                    go_wp2_with fail
                    refine hK.out _ _ (kp_step hS hb2) (fun hS2 => ?_)
                    clear hK
                    (try simp only [Act.put, aZ, bZ, cZ, dZ, eZ, fZ])
                    exact st210.out _ _ ⟨gT, qA, rfl, (T1.below hb2), (RowAt.below p1 hb2), p2⟩ hS2
                  · go_simp
                    have hb2 : Below w1.heap.size w1 (w1.alloc (.cells #[.int .i64 0, .int .i64 0, .int .i64 0, .int .i64 0, .int .i64 0, .int .i64 0, .int .i64 0, .int .i64 0, .int .i64 0, .string ⟨#[]⟩, .int .i64 0, .int .i64 0, .int .i64 0] 38)) := (Below.refl _ _).alloc (Nat.le_refl _) _
                    have n1 : RowAt (w1.alloc (.cells #[.int .i64 0, .int .i64 0, .int .i64 0, .int .i64 0, .int .i64 0, .int .i64 0, .int .i64 0, .int .i64 0, .int .i64 0, .string ⟨#[]⟩, .int .i64 0, .int .i64 0, .int .i64 0] 38)) w1.heap.size 13 (uq M1.zeroU) := uq_new w1 M1.zeroU 38
                    refine hK.out _ _ (kp_alloc hS _) (fun hS2 => ?_)
                    clear hK
                    (try simp only [Act.put, aZ, bZ, cZ, dZ, eZ, fZ])
                    exact st111.out _ _ ⟨gT, qA, w1.heap.size, rfl, (T1.below hb2), (RowAt.below p1 hb2), p2, n1, hS.1.size, (by have := p1.lt; omega)⟩ hS2
                refine have_state 10 #[true, true, true, true, true, false, false, false, false, false, false, false, false, false, false] (fun act w1 => ∃ (gT : Nat), act = (⟨#[.agg #[.int .i64 id, .int .i64 a, .int .i64 b, .int .i64 c, .slice av n cn], .agg #[.int .i64 ok, .int .i64 ot, .int .i64 oa, .int .i64 ob, .string os, .int .i64 oc, .int .i64 oe], .int .i64 now, .pointer (some ⟨gA, 0, none⟩), .pointer (some ⟨gE, 0, none⟩), undef, u6, .int .i64 (r - (os.size : Int)), .pointer (some ⟨gW, 0, none⟩), .pointer (some ⟨gVW, 0, none⟩), .int .i64 kc, .pointer (some ⟨gY, 0, none⟩), .pointer (some ⟨gG, 0, none⟩), .pointer (some ⟨gVG, 0, none⟩), .int .i64 kc, .int .i64 (1 + 13 * (n : Int)), .int .i64 (1 + 13 * (q : Int)), .int .i64 (1 + 13 * (q : Int)), undef, undef, undef, u21, u22, u23, u24, u25, u26, u27, u28, u29, u30, u31, u32, u33, u34, u35, u36, u37, u38, u39, u40, u41, u42, u43, u44, u45, u46, u47, u48, u49, u50, u51, u52, u53, u54, u55, u56, u57, u58, u59, u60, u61, u62, u63, u64, u65, u66, u67, u68, u69, u70, u71, u72, u73, u74, u75, u76, u77, u78, u79, u80, u81, u82, u83, u84, u85, u86, u87, u88, u89, u90, u91, u92, u93, u94, u95, u96, u97, u98, u99, u100, u101, u102, u103, u104, u105, .agg #[.int .i64 id, .int .i64 a, .int .i64 b, .int .i64 c, .slice av n cn], .agg #[.int .i64 id, .int .i64 a, .int .i64 b, .int .i64 c, .slice (some ⟨gT, 0, none⟩) n n], .agg #[.int .i64 ok, .int .i64 ot, .int .i64 oa, .int .i64 ob, .string os, .int .i64 oc, .int .i64 oe], .agg #[.int .i64 ok, .int .i64 ot, .int .i64 oa, .int .i64 ob, .string os, .int .i64 oc, .int .i64 oe], .int .i64 now, u111, u112, u113, u114, u115, u116, u117, u118, u119, u120, u121, u122, u123, u124, u125, u126, u127, u128, u129, u130, u131, u132, u133, u134, u135, u136, u137], []⟩ : Act) ∧ RowAt w1 gT (n * 13) (ucell us)) ?_ (fun st200 => ?_)
                · rintro act w1 ⟨gT, rfl, T1⟩ hS
                  refine wpAnyH_ready (rs := [5, 10, 11]) (by kernel_rfl) (by simp) ?_
                  refine (AllReadyH.cons (o := _) rfl (fun K hK => ?_) (AllReadyH.cons (o := _) rfl (fun K hK => ?_) (AllReadyH.cons (o := _) rfl (fun K hK => ?_) AllReadyH.nil)))
                  · go_simp
                    have js := issued_impl s0 s1 s2 s3 s4 ⟨id, a, b, c, us⟩ ⟨ok, ot, oa, ob, os, oc, oe⟩ now _ _ _ _ (S.below (B15.trans (hS.1.mono B15.size))) (isUpds_of_row HL1.out (Nat.le_refl _) (by unfold maxLen; omega) HT1.out T1) ho
                    unfold IsS RgD at js
                    rw [HX.out, HU.out, HK.out, HQ.out] at js
                    refine js.mono ?_
                    clear js
                    rintro e w2 ⟨⟨_, rfl, aH, cH, rfl, m1⟩, hb2⟩
                    go_wp2_with fail
                    refine hK.out _ _ (kp_step hS hb2) (fun hS2 => ?_)
                    clear hK
                    (try simp only [Act.put, aZ, bZ, cZ, dZ, eZ, fZ])
                    refine wpAnyH_take (i := 6) (v := ?_) rfl (by kernel_rfl) (by kernel_rfl) (by kernel_rfl) (fun _ _ _ h => h) (Or.inl ⟨by rfl, ?_⟩) hS2 ?_
                    rotate_left
                    · (intro w hSw; (try dsimp only at hSw); go_simp; try (with_reducible rfl))
                    (try simp only [Act.put, aZ, bZ, cZ, dZ, eZ, fZ])
                    refine wpAnyH_take (i := 7) (v := ?_) rfl (by kernel_rfl) (by kernel_rfl) (by kernel_rfl) (fun _ _ _ h => h) (Or.inl ⟨by rfl, ?_⟩) hS2 ?_
                    rotate_left
                    · (intro w hSw; (try dsimp only at hSw); go_simp; try (with_reducible rfl))
                    (try simp only [Act.put, aZ, bZ, cZ, dZ, eZ, fZ])
                    refine wpAnyH_take (i := 8) (v := ?_) rfl (by kernel_rfl) (by kernel_rfl) (by kernel_rfl) (fun _ _ _ h => h) (Or.inl ⟨by rfl, ?_⟩) hS2 ?_
                    rotate_left
                    · (intro w hSw; (try dsimp only at hSw); go_simp; try (with_reducible rfl))
                    (try simp only [Act.put, aZ, bZ, cZ, dZ, eZ, fZ])
                    refine wpAnyH_take (i := 9) (v := ?_) rfl (by kernel_rfl) (by kernel_rfl) (by kernel_rfl) (fun _ _ _ h => h) (Or.inl ⟨by rfl, ?_⟩) hS2 ?_
                    rotate_left
                    · (intro w hSw; (try dsimp only at hSw); go_simp; try (with_reducible rfl))
                    (try simp only [Act.put, aZ, bZ, cZ, dZ, eZ, fZ])
                    exact st300.out _ _ ⟨gT, aH, cH, w1.heap.size, w2.heap.size, rfl, m1, hS.1.size, hb2.size, (Nat.le_refl _)⟩ hS2
                  · go_simp
                    have hb2 : Below w1.heap.size w1 (w1.alloc (.cells #[.int .i64 0, .int .i64 0, .int .i64 0, .int .i64 0, .slice none 0 0] 28)) := (Below.refl _ _).alloc (Nat.le_refl _) _
                    have n1 : RgAt (w1.alloc (.cells #[.int .i64 0, .int .i64 0, .int .i64 0, .int .i64 0, .slice none 0 0] 28)) w1.heap.size 0 0 0 0 none 0 0 := rg_new w1 0 0 0 0 none 0 0 28
                    refine hK.out _ _ (kp_alloc hS _) (fun hS2 => ?_)
                    clear hK
                    (try simp only [Act.put, aZ, bZ, cZ, dZ, eZ, fZ])
                    exact st210.out _ _ ⟨gT, w1.heap.size, rfl, (T1.below hb2), n1, hS.1.size⟩ hS2
                  · go_simp
                    have hb2 : Below w1.heap.size w1 (w1.alloc (.cells #[.int .i64 0, .int .i64 0, .int .i64 0, .int .i64 0, .int .i64 0, .int .i64 0, .int .i64 0, .int .i64 0, .int .i64 0, .string ⟨#[]⟩, .int .i64 0, .int .i64 0, .int .i64 0] 38)) := (Below.refl _ _).alloc (Nat.le_refl _) _
                    have n1 : RowAt (w1.alloc (.cells #[.int .i64 0, .int .i64 0, .int .i64 0, .int .i64 0, .int .i64 0, .int .i64 0, .int .i64 0, .int .i64 0, .int .i64 0, .string ⟨#[]⟩, .int .i64 0, .int .i64 0, .int .i64 0] 38)) w1.heap.size 13 (uq M1.zeroU) := uq_new w1 M1.zeroU 38
                    refine hK.out _ _ (kp_alloc hS _) (fun hS2 => ?_)
                    clear hK
                    (try simp only [Act.put, aZ, bZ, cZ, dZ, eZ, fZ])
                    exact st201.out _ _ ⟨gT, w1.heap.size, rfl, (T1.below hb2), n1, hS.1.size⟩ hS2
                refine have_state 11 #[true, false, true, false, true, false, false, false, false, false, false, true, false, false, false] (fun act w1 => ∃ (qB : Nat), act = (⟨#[.agg #[.int .i64 id, .int .i64 a, .int .i64 b, .int .i64 c, .slice av n cn], .agg #[.int .i64 ok, .int .i64 ot, .int .i64 oa, .int .i64 ob, .string os, .int .i64 oc, .int .i64 oe], .int .i64 now, .pointer (some ⟨gA, 0, none⟩), .pointer (some ⟨gE, 0, none⟩), undef, u6, .int .i64 (r - (os.size : Int)), .pointer (some ⟨gW, 0, none⟩), .pointer (some ⟨gVW, 0, none⟩), .int .i64 kc, .pointer (some ⟨gY, 0, none⟩), .pointer (some ⟨gG, 0, none⟩), .pointer (some ⟨gVG, 0, none⟩), .int .i64 kc, .int .i64 (1 + 13 * (n : Int)), .int .i64 (1 + 13 * (q : Int)), .int .i64 (1 + 13 * (q : Int)), undef, .pointer (some ⟨qB, 0, none⟩), undef, u21, u22, u23, u24, u25, u26, u27, u28, u29, u30, u31, u32, u33, u34, u35, u36, u37, u38, u39, u40, u41, u42, u43, u44, u45, u46, u47, u48, u49, u50, u51, u52, u53, u54, u55, u56, u57, u58, u59, u60, u61, u62, u63, u64, u65, u66, u67, u68, u69, u70, u71, u72, u73, u74, u75, u76, u77, u78, u79, u80, u81, u82, u83, u84, u85, u86, u87, u88, u89, u90, u91, u92, u93, u94, u95, u96, u97, u98, u99, u100, u101, u102, u103, u104, u105, .agg #[.int .i64 id, .int .i64 a, .int .i64 b, .int .i64 c, .slice av n cn], u107, .agg #[.int .i64 ok, .int .i64 ot, .int .i64 oa, .int .i64 ob, .string os, .int .i64 oc, .int .i64 oe], u109, .int .i64 now, u111, u112, u113, u114, u115, u116, u117, u118, u119, u120, u121, u122, u123, u124, u125, u126, u127, u128, u129, u130, u131, u132, u133, u134, u135, u136, u137], []⟩ : Act) ∧ RowAt w1 qB 13 (uq M1.zeroU) ∧ w15.heap.size ≤ qB) ?_ (fun st001 => ?_)
                · rintro act w1 ⟨qB, rfl, r1, r2⟩ hS
                  refine wpAnyH_ready (rs := [1, 10]) (by kernel_rfl) (by simp) ?_
                  refine (AllReadyH.cons (o := _) rfl (fun K hK => ?_) (AllReadyH.cons (o := _) rfl (fun K hK => ?_) AllReadyH.nil))
                  · go_simp
                    refine (toRegion_any id a b c _ _ _ _ _ ((h1.below B15).below hS.1) hn').mono ?_
                    rintro e w2 ⟨gT, rfl, hgT, T2, hb2⟩
                    go_wp2_with fail
                    refine hK.out _ _ (kp_step hS hb2) (fun hS2 => ?_)
                    clear hK
                    (try simp only [Act.put, aZ, bZ, cZ, dZ, eZ, fZ])
                    exact st101.out _ _ ⟨gT, qB, rfl, T2, (RowAt.below r1 hb2), r2⟩ hS2
                  · go_simp
                    have hb2 : Below w1.heap.size w1 (w1.alloc (.cells #[.int .i64 0, .int .i64 0, .int .i64 0, .int .i64 0, .slice none 0 0] 28)) := (Below.refl _ _).alloc (Nat.le_refl _) _
                    have n1 : RgAt (w1.alloc (.cells #[.int .i64 0, .int .i64 0, .int .i64 0, .int .i64 0, .slice none 0 0] 28)) w1.heap.size 0 0 0 0 none 0 0 := rg_new w1 0 0 0 0 none 0 0 28
                    refine hK.out _ _ (kp_alloc hS _) (fun hS2 => ?_)
                    clear hK
                    (try simp only [Act.put, aZ, bZ, cZ, dZ, eZ, fZ])
                    exact st011.out _ _ ⟨w1.heap.size, qB, rfl, n1, hS.1.size, (RowAt.below r1 hb2), r2, (by have := r1.lt; omega)⟩ hS2
                refine have_state 11 #[true, false, true, false, true, false, false, false, false, false, true, false, false, false, false] (fun act w1 => ∃ (qA : Nat), act = (⟨#[.agg #[.int .i64 id, .int .i64 a, .int .i64 b, .int .i64 c, .slice av n cn], .agg #[.int .i64 ok, .int .i64 ot, .int .i64 oa, .int .i64 ob, .string os, .int .i64 oc, .int .i64 oe], .int .i64 now, .pointer (some ⟨gA, 0, none⟩), .pointer (some ⟨gE, 0, none⟩), undef, u6, .int .i64 (r - (os.size : Int)), .pointer (some ⟨gW, 0, none⟩), .pointer (some ⟨gVW, 0, none⟩), .int .i64 kc, .pointer (some ⟨gY, 0, none⟩), .pointer (some ⟨gG, 0, none⟩), .pointer (some ⟨gVG, 0, none⟩), .int .i64 kc, .int .i64 (1 + 13 * (n : Int)), .int .i64 (1 + 13 * (q : Int)), .int .i64 (1 + 13 * (q : Int)), .pointer (some ⟨qA, 0, none⟩), undef, undef, u21, u22, u23, u24, u25, u26, u27, u28, u29, u30, u31, u32, u33, u34, u35, u36, u37, u38, u39, u40, u41, u42, u43, u44, u45, u46, u47, u48, u49, u50, u51, u52, u53, u54, u55, u56, u57, u58, u59, u60, u61, u62, u63, u64, u65, u66, u67, u68, u69, u70, u71, u72, u73, u74, u75, u76, u77, u78, u79, u80, u81, u82, u83, u84, u85, u86, u87, u88, u89, u90, u91, u92, u93, u94, u95, u96, u97, u98, u99, u100, u101, u102, u103, u104, u105, .agg #[.int .i64 id, .int .i64 a, .int .i64 b, .int .i64 c, .slice av n cn], u107, .agg #[.int .i64 ok, .int .i64 ot, .int .i64 oa, .int .i64 ob, .string os, .int .i64 oc, .int .i64 oe], u109, .int .i64 now, u111, u112, u113, u114, u115, u116, u117, u118, u119, u120, u121, u122, u123, u124, u125, u126, u127, u128, u129, u130, u131, u132, u133, u134, u135, u136, u137], []⟩ : Act) ∧ RgAt w1 qA 0 0 0 0 none 0 0 ∧ w15.heap.size ≤ qA) ?_ (fun st010 => ?_)
                · rintro act w1 ⟨qA, rfl, p1, p2⟩ hS
                  refine wpAnyH_ready (rs := [1, 11]) (by kernel_rfl) (by simp) ?_
                  refine (AllReadyH.cons (o := _) rfl (fun K hK => ?_) (AllReadyH.cons (o := _) rfl (fun K hK => ?_) AllReadyH.nil))
                  · go_simp
                    refine (toRegion_any id a b c _ _ _ _ _ ((h1.below B15).below hS.1) hn').mono ?_
                    rintro e w2 ⟨gT, rfl, hgT, T2, hb2⟩
                    go_wp2_with fail
                    refine hK.out _ _ (kp_step hS hb2) (fun hS2 => ?_)
                    clear hK
                    (try simp only [Act.put, aZ, bZ, cZ, dZ, eZ, fZ])
                    exact st110.out _ _ ⟨gT, qA, rfl, T2, (RowAt.below p1 hb2), p2⟩ hS2
                  · go_simp
                    have hb2 : Below w1.heap.size w1 (w1.alloc (.cells #[.int .i64 0, .int .i64 0, .int .i64 0, .int .i64 0, .int .i64 0, .int .i64 0, .int .i64 0, .int .i64 0, .int .i64 0, .string ⟨#[]⟩, .int .i64 0, .int .i64 0, .int .i64 0] 38)) := (Below.refl _ _).alloc (Nat.le_refl _) _
                    have n1 : RowAt (w1.alloc (.cells #[.int .i64 0, .int .i64 0, .int .i64 0, .int .i64 0, .int .i64 0, .int .i64 0, .int .i64 0, .int .i64 0, .int .i64 0, .string ⟨#[]⟩, .int .i64 0, .int .i64 0, .int .i64 0] 38)) w1.heap.size 13 (uq M1.zeroU) := uq_new w1 M1.zeroU 38
                    refine hK.out _ _ (kp_alloc hS _) (fun hS2 => ?_)
                    clear hK
                    (try simp only [Act.put, aZ, bZ, cZ, dZ, eZ, fZ])
                    exact st011.out _ _ ⟨qA, w1.heap.size, rfl, (RowAt.below p1 hb2), p2, n1, hS.1.size, (by have := p1.lt; omega)⟩ hS2
                refine have_state 11 #[true, true, true, false, true, false, false, false, false, false, false, false, false, false, false] (fun act w1 => ∃ (gT : Nat), act = (⟨#[.agg #[.int .i64 id, .int .i64 a, .int .i64 b, .int .i64 c, .slice av n cn], .agg #[.int .i64 ok, .int .i64 ot, .int .i64 oa, .int .i64 ob, .string os, .int .i64 oc, .int .i64 oe], .int .i64 now, .pointer (some ⟨gA, 0, none⟩), .pointer (some ⟨gE, 0, none⟩), undef, u6, .int .i64 (r - (os.size : Int)), .pointer (some ⟨gW, 0, none⟩), .pointer (some ⟨gVW, 0, none⟩), .int .i64 kc, .pointer (some ⟨gY, 0, none⟩), .pointer (some ⟨gG, 0, none⟩), .pointer (some ⟨gVG, 0, none⟩), .int .i64 kc, .int .i64 (1 + 13 * (n : Int)), .int .i64 (1 + 13 * (q : Int)), .int .i64 (1 + 13 * (q : Int)), undef, undef, undef, u21, u22, u23, u24, u25, u26, u27, u28, u29, u30, u31, u32, u33, u34, u35, u36, u37, u38, u39, u40, u41, u42, u43, u44, u45, u46, u47, u48, u49, u50, u51, u52, u53, u54, u55, u56, u57, u58, u59, u60, u61, u62, u63, u64, u65, u66, u67, u68, u69, u70, u71, u72, u73, u74, u75, u76, u77, u78, u79, u80, u81, u82, u83, u84, u85, u86, u87, u88, u89, u90, u91, u92, u93, u94, u95, u96, u97, u98, u99, u100, u101, u102, u103, u104, u105, .agg #[.int .i64 id, .int .i64 a, .int .i64 b, .int .i64 c, .slice av n cn], .agg #[.int .i64 id, .int .i64 a, .int .i64 b, .int .i64 c, .slice (some ⟨gT, 0, none⟩) n n], .agg #[.int .i64 ok, .int .i64 ot, .int .i64 oa, .int .i64 ob, .string os, .int .i64 oc, .int .i64 oe], u109, .int .i64 now, u111, u112, u113, u114, u115, u116, u117, u118, u119, u120, u121, u122, u123, u124, u125, u126, u127, u128, u129, u130, u131, u132, u133, u134, u135, u136, u137], []⟩ : Act) ∧ RowAt w1 gT (n * 13) (ucell us)) ?_ (fun st100 => ?_)
                · rintro act w1 ⟨gT, rfl, T1⟩ hS
                  refine wpAnyH_ready (rs := [3, 10, 11]) (by kernel_rfl) (by simp) ?_
                  refine (AllReadyH.cons (o := _) rfl (fun K hK => ?_) (AllReadyH.cons (o := _) rfl (fun K hK => ?_) (AllReadyH.cons (o := _) rfl (fun K hK => ?_) AllReadyH.nil)))
                  · go_simp
                    refine (toOp_any ok ot oa ob oc oe os _).mono ?_
                    rintro e w2 ⟨rfl, hb2⟩
                    go_wp2_with fail
                    refine hK.out _ _ (kp_step hS hb2) (fun hS2 => ?_)
                    clear hK
                    (try simp only [Act.put, aZ, bZ, cZ, dZ, eZ, fZ])
                    exact st200.out _ _ ⟨gT, rfl, (T1.below hb2)⟩ hS2
                  · go_simp
                    have hb2 : Below w1.heap.size w1 (w1.alloc (.cells #[.int .i64 0, .int .i64 0, .int .i64 0, .int .i64 0, .slice none 0 0] 28)) := (Below.refl _ _).alloc (Nat.le_refl _) _
                    have n1 : RgAt (w1.alloc (.cells #[.int .i64 0, .int .i64 0, .int .i64 0, .int .i64 0, .slice none 0 0] 28)) w1.heap.size 0 0 0 0 none 0 0 := rg_new w1 0 0 0 0 none 0 0 28
                    refine hK.out _ _ (kp_alloc hS _) (fun hS2 => ?_)
                    clear hK
                    (try simp only [Act.put, aZ, bZ, cZ, dZ, eZ, fZ])
                    exact st110.out _ _ ⟨gT, w1.heap.size, rfl, (T1.below hb2), n1, hS.1.size⟩ hS2
                  · go_simp
                    have hb2 : Below w1.heap.size w1 (w1.alloc (.cells #[.int .i64 0, .int .i64 0, .int .i64 0, .int .i64 0, .int .i64 0, .int .i64 0, .int .i64 0, .int .i64 0, .int .i64 0, .string ⟨#[]⟩, .int .i64 0, .int .i64 0, .int .i64 0] 38)) := (Below.refl _ _).alloc (Nat.le_refl _) _
                    have n1 : RowAt (w1.alloc (.cells #[.int .i64 0, .int .i64 0, .int .i64 0, .int .i64 0, .int .i64 0, .int .i64 0, .int .i64 0, .int .i64 0, .int .i64 0, .string ⟨#[]⟩, .int .i64 0, .int .i64 0, .int .i64 0] 38)) w1.heap.size 13 (uq M1.zeroU) := uq_new w1 M1.zeroU 38
                    refine hK.out _ _ (kp_alloc hS _) (fun hS2 => ?_)
                    clear hK
                    (try simp only [Act.put, aZ, bZ, cZ, dZ, eZ, fZ])
                    exact st101.out _ _ ⟨gT, w1.heap.size, rfl, (T1.below hb2), n1, hS.1.size⟩ hS2
                refine have_state 12 #[true, false, true, false, true, false, false, false, false, false, false, false, false, false, false] (fun act w1 => act = (⟨#[.agg #[.int .i64 id, .int .i64 a, .int .i64 b, .int .i64 c, .slice av n cn], .agg #[.int .i64 ok, .int .i64 ot, .int .i64 oa, .int .i64 ob, .string os, .int .i64 oc, .int .i64 oe], .int .i64 now, .pointer (some ⟨gA, 0, none⟩), .pointer (some ⟨gE, 0, none⟩), undef, u6, .int .i64 (r - (os.size : Int)), .pointer (some ⟨gW, 0, none⟩), .pointer (some ⟨gVW, 0, none⟩), .int .i64 kc, .pointer (some ⟨gY, 0, none⟩), .pointer (some ⟨gG, 0, none⟩), .pointer (some ⟨gVG, 0, none⟩), .int .i64 kc, .int .i64 (1 + 13 * (n : Int)), .int .i64 (1 + 13 * (q : Int)), .int .i64 (1 + 13 * (q : Int)), undef, undef, undef, u21, u22, u23, u24, u25, u26, u27, u28, u29, u30, u31, u32, u33, u34, u35, u36, u37, u38, u39, u40, u41, u42, u43, u44, u45, u46, u47, u48, u49, u50, u51, u52, u53, u54, u55, u56, u57, u58, u59, u60, u61, u62, u63, u64, u65, u66, u67, u68, u69, u70, u71, u72, u73, u74, u75, u76, u77, u78, u79, u80, u81, u82, u83, u84, u85, u86, u87, u88, u89, u90, u91, u92, u93, u94, u95, u96, u97, u98, u99, u100, u101, u102, u103, u104, u105, .agg #[.int .i64 id, .int .i64 a, .int .i64 b, .int .i64 c, .slice av n cn], u107, .agg #[.int .i64 ok, .int .i64 ot, .int .i64 oa, .int .i64 ob, .string os, .int .i64 oc, .int .i64 oe], u109, .int .i64 now, u111, u112, u113, u114, u115, u116, u117, u118, u119, u120, u121, u122, u123, u124, u125, u126, u127, u128, u129, u130, u131, u132, u133, u134, u135, u136, u137], []⟩ : Act)) ?_ (fun st000 => ?_)
                · rintro act w1 rfl hS
                  refine wpAnyH_ready (rs := [1, 10, 11]) (by kernel_rfl) (by simp) ?_
                  refine (AllReadyH.cons (o := _) rfl (fun K hK => ?_) (AllReadyH.cons (o := _) rfl (fun K hK => ?_) (AllReadyH.cons (o := _) rfl (fun K hK => ?_) AllReadyH.nil)))
                  · go_simp
                    refine (toRegion_any id a b c _ _ _ _ _ ((h1.below B15).below hS.1) hn').mono ?_
                    rintro e w2 ⟨gT, rfl, hgT, T2, hb2⟩
                    go_wp2_with fail
                    refine hK.out _ _ (kp_step hS hb2) (fun hS2 => ?_)
                    clear hK
                    (try simp only [Act.put, aZ, bZ, cZ, dZ, eZ, fZ])
                    exact st100.out _ _ ⟨gT, rfl, T2⟩ hS2
                  · go_simp
                    have hb2 : Below w1.heap.size w1 (w1.alloc (.cells #[.int .i64 0, .int .i64 0, .int .i64 0, .int .i64 0, .slice none 0 0] 28)) := (Below.refl _ _).alloc (Nat.le_refl _) _
                    have n1 : RgAt (w1.alloc (.cells #[.int .i64 0, .int .i64 0, .int .i64 0, .int .i64 0, .slice none 0 0] 28)) w1.heap.size 0 0 0 0 none 0 0 := rg_new w1 0 0 0 0 none 0 0 28
                    refine hK.out _ _ (kp_alloc hS _) (fun hS2 => ?_)
                    clear hK
                    (try simp only [Act.put, aZ, bZ, cZ, dZ, eZ, fZ])
                    exact st010.out _ _ ⟨w1.heap.size, rfl, n1, hS.1.size⟩ hS2
                  · go_simp
                    have hb2 : Below w1.heap.size w1 (w1.alloc (.cells #[.int .i64 0, .int .i64 0, .int .i64 0, .int .i64 0, .int .i64 0, .int .i64 0, .int .i64 0, .int .i64 0, .int .i64 0, .string ⟨#[]⟩, .int .i64 0, .int .i64 0, .int .i64 0] 38)) := (Below.refl _ _).alloc (Nat.le_refl _) _
                    have n1 : RowAt (w1.alloc (.cells #[.int .i64 0, .int .i64 0, .int .i64 0, .int .i64 0, .int .i64 0, .int .i64 0, .int .i64 0, .int .i64 0, .int .i64 0, .string ⟨#[]⟩, .int .i64 0, .int .i64 0, .int .i64 0] 38)) w1.heap.size 13 (uq M1.zeroU) := uq_new w1 M1.zeroU 38
                    refine hK.out _ _ (kp_alloc hS _) (fun hS2 => ?_)
                    clear hK
                    (try simp only [Act.put, aZ, bZ, cZ, dZ, eZ, fZ])
                    exact st001.out _ _ ⟨w1.heap.size, rfl, n1, hS.1.size⟩ hS2
                refine wpAnyH_take (i := 0) (v := ?_) rfl (by kernel_rfl) (by kernel_rfl) (by kernel_rfl) (fun _ _ _ h => h) (Or.inl ⟨by rfl, ?_⟩) hHeld ?_
                rotate_left
                · (intro w hSw; (try dsimp only at hSw); go_simp; try (with_reducible rfl))
                (try simp only [Act.put, aZ, bZ, cZ, dZ, eZ, fZ])
                refine wpAnyH_take (i := 2) (v := ?_) rfl (by kernel_rfl) (by kernel_rfl) (by kernel_rfl) (fun _ _ _ h => h) (Or.inl ⟨by rfl, ?_⟩) hHeld ?_
                rotate_left
                · (intro w hSw; (try dsimp only at hSw); go_simp; try (with_reducible rfl))
                (try simp only [Act.put, aZ, bZ, cZ, dZ, eZ, fZ])
                refine wpAnyH_take (i := 4) (v := ?_) rfl (by kernel_rfl) (by kernel_rfl) (by kernel_rfl) (fun _ _ _ h => h) (Or.inl ⟨by rfl, ?_⟩) hHeld ?_
                rotate_left
                · (intro w hSw; (try dsimp only at hSw); go_simp; try (with_reducible rfl))
                (try simp only [Act.put, aZ, bZ, cZ, dZ, eZ, fZ])
                exact st000.out _ _ rfl hHeld
              case rest =>
                obtain ⟨gH, gVH, loH, hiH, aH, cH, rfl, rfl, rfl, hl1H, hl2H, hl3H, hl4H, hl5H, hl6H, hl7H, hneH, H16, VH16, MI16, hb16⟩ := hcut
                obtain ⟨w16, hw16⟩ : ∃ v, v = wc := ⟨_, rfl⟩
                rw [← hw16] at hl3H H16 VH16 MI16 hb16 ⊢
                clear hw16
                have B16 := B15.trans (hb16.mono B15.size)
                have hs16 := hb16.size
                have hltgH := H16.lt
                have hltgVH := VH16.lt
                clear e0 e1 e2 e3 e4 e5 e6 el
                clear d0 d1 d2 d3 d4 dl
                have A16 : RgAt w16 gA id a b c av n cn := A15.below hb16
                have E16 : OpAt w16 gE ⟨ok, ot, oa, ob, os, oc, oe⟩ := RowAt.below E15 hb16
                have W16 : RgAt w16 gW t.id t.a t.b t.c aW q cW := W15.below hb16
                have VW16 : RowAt w16 gVW 13 (uq u) := RowAt.below VW15 hb16
                have MW16 : MU w16 aW q cW loW hiW (ucell t.us) := MW15.below hb16
                have G16 : RgAt w16 gG t.id t.a t.b t.c aG q cG := G15.below hb16
                have VG16 : RowAt w16 gVG 13 (uq u) := RowAt.below VG15 hb16
                have MH16 : MU w16 aG q cG loG hiG (mcell 1) := MH15.below hb16
                clear A15 E15 W15 VW15 MW15 G15 VG15 MH15
                obtain ⟨d0, d1, d2, d3, d4⟩ := H16.cells
                have dl := H16.lt
                obtain ⟨e0, e1, e2, e3, e4⟩ := W16.cells
                have el := W16.lt
                go_wp2_with fail
                refine (eqRegion_self t.id t.a t.b t.c _ _ _ _ _ _ _ (MI16.upds HQ.out HTX.out) (MW16.upds HQ.out HTX.out)).mono ?_
                rintro e w17 ⟨rfl, hb17⟩
                have B17 := B16.trans (hb17.mono B16.size)
                have hs17 := hb17.size
                have A17 : RgAt w17 gA id a b c av n cn := A16.below hb17
                have E17 : OpAt w17 gE ⟨ok, ot, oa, ob, os, oc, oe⟩ := RowAt.below E16 hb17
                have W17 : RgAt w17 gW t.id t.a t.b t.c aW q cW := W16.below hb17
                have VW17 : RowAt w17 gVW 13 (uq u) := RowAt.below VW16 hb17
                have MW17 : MU w17 aW q cW loW hiW (ucell t.us) := MW16.below hb17
                have G17 : RgAt w17 gG t.id t.a t.b t.c aG q cG := G16.below hb17
                have VG17 : RowAt w17 gVG 13 (uq u) := RowAt.below VG16 hb17
                have MH17 : MU w17 aG q cG loG hiG (mcell 1) := MH16.below hb17
                have H17 : RgAt w17 gH t.id t.a t.b t.c aH q cH := H16.below hb17
                have VH17 : RowAt w17 gVH 13 (uq u) := RowAt.below VH16 hb17
                have MI17 : MU w17 aH q cH loH hiH (ucell t.us) := MI16.below hb17
                clear A16 E16 W16 VW16 MW16 G16 VG16 MH16 H16 VH16 MI16
                clear d0 d1 d2 d3 d4 dl
                clear e0 e1 e2 e3 e4 el
                obtain ⟨d0, d1, d2, d3, d4, d5, d6, d7, d8, d9, d10, d11, d12⟩ := uq_cells VH17
                have dl := VH17.lt
                obtain ⟨e0, e1, e2, e3, e4, e5, e6, e7, e8, e9, e10, e11, e12⟩ := uq_cells VW17
                have el := VW17.lt
                go_wp2_with fail
                refine (eqUpdate_self u.dr u.dn u.sw u.sc u.sr u.k u.tr u.id u.pa u.st u.en u.lv u.s _).mono ?_
                rintro e w18 ⟨rfl, hb18⟩
                have B18 := B17.trans (hb18.mono B17.size)
                have hs18 := hb18.size
                have A18 : RgAt w18 gA id a b c av n cn := A17.below hb18
                have E18 : OpAt w18 gE ⟨ok, ot, oa, ob, os, oc, oe⟩ := RowAt.below E17 hb18
                have W18 : RgAt w18 gW t.id t.a t.b t.c aW q cW := W17.below hb18
                have VW18 : RowAt w18 gVW 13 (uq u) := RowAt.below VW17 hb18
                have MW18 : MU w18 aW q cW loW hiW (ucell t.us) := MW17.below hb18
                have G18 : RgAt w18 gG t.id t.a t.b t.c aG q cG := G17.below hb18
                have VG18 : RowAt w18 gVG 13 (uq u) := RowAt.below VG17 hb18
                have MH18 : MU w18 aG q cG loG hiG (mcell 1) := MH17.below hb18
                have H18 : RgAt w18 gH t.id t.a t.b t.c aH q cH := H17.below hb18
                have VH18 : RowAt w18 gVH 13 (uq u) := RowAt.below VH17 hb18
                have MI18 : MU w18 aH q cH loH hiH (ucell t.us) := MI17.below hb18
                clear A17 E17 W17 VW17 MW17 G17 VG17 MH17 H17 VH17 MI17
                clear d0 d1 d2 d3 d4 d5 d6 d7 d8 d9 d10 d11 d12 dl
                clear e0 e1 e2 e3 e4 e5 e6 e7 e8 e9 e10 e11 e12 el
                obtain ⟨d0, d1, d2, d3, d4⟩ := G18.cells
                have dl := G18.lt
                go_wp2_with fail
                refine (heldRegion_any t.id t.a t.b t.c _ _ _ _ _ 1 _ MH18 (by omega) (by omega) (by omega)).mono ?_
                rintro e w19 ⟨rfl, hb19⟩
                have B19 := B18.trans (hb19.mono B18.size)
                have hs19 := hb19.size
                have A19 : RgAt w19 gA id a b c av n cn := A18.below hb19
                have E19 : OpAt w19 gE ⟨ok, ot, oa, ob, os, oc, oe⟩ := RowAt.below E18 hb19
                have W19 : RgAt w19 gW t.id t.a t.b t.c aW q cW := W18.below hb19
                have VW19 : RowAt w19 gVW 13 (uq u) := RowAt.below VW18 hb19
                have MW19 : MU w19 aW q cW loW hiW (ucell t.us) := MW18.below hb19
                have G19 : RgAt w19 gG t.id t.a t.b t.c aG q cG := G18.below hb19
                have VG19 : RowAt w19 gVG 13 (uq u) := RowAt.below VG18 hb19
                have MH19 : MU w19 aG q cG loG hiG (mcell 1) := MH18.below hb19
                have H19 : RgAt w19 gH t.id t.a t.b t.c aH q cH := H18.below hb19
                have VH19 : RowAt w19 gVH 13 (uq u) := RowAt.below VH18 hb19
                have MI19 : MU w19 aH q cH loH hiH (ucell t.us) := MI18.below hb19
                clear A18 E18 W18 VW18 MW18 G18 VG18 MH18 H18 VH18 MI18
                clear d0 d1 d2 d3 d4 dl
                go_wp2_with fail
                go_ret
                exact ⟨rfl, B19⟩
    · have hso3 : r < (os.size : Int) := by omega
      go_wp2_with fail
      refine (szOp_no ok ot oa ob oc oe os r _ hr0 hr1 ho hso3).mono ?_
      rintro e wz ⟨rfl, hbz⟩
      have Bz := B2.trans (hbz.mono B2.size)
      go_wp2_with fail
      go_ret
      exact ⟨rfl, Bz⟩
  · have Bz := B1.trans (hb2.mono B1.size)
    go_wp2_with fail
    go_ret
    exact ⟨rfl, Bz⟩

theorem own : ownKnob Tryz.prog.godebug = none := by kernel_rfl

theorem laidOut : laidOutB Tryz.prog = true := by kernel_rfl

set_option maxRecDepth 100000 in
theorem door_met (os : Os) (args : Array Value) : laidMetH Tryz.prog Rows.fnExactIssuedRow.laid ((World.doorLaid Tryz.prog 111 os).forCall (fun _ _ => 0) ⟨#[], args, []⟩).memory :=
  laidMetH_of_parts3 (fuel := 8) (laidMet_of_run' 8 (by kernel_rfl) (by kernel_rfl)) (by kernel_rfl) (by kernel_rfl)

set_option maxRecDepth 100000 in
theorem lifted (os : Os) (started : os.Started) (H : Type) (enc : TypeId × Value → H) :
    ReturnsInHanded {} Tryz.checked os 6 .any (fun w args => (Rows.fnExactIssuedSpec.pre enc Tryz.prog Tryz.f6 Rows.fnExactIssuedRow.domain false w args ∧ laidMetH Tryz.prog Rows.fnExactIssuedRow.laid w) ∧ sizedMet enc Tryz.prog Tryz.f6 (OpenSpec.ofChange Rows.fnExactIssuedSpec) false w args) (Rows.fnExactIssuedSpec.post enc Tryz.prog Tryz.f6 false true false false) := by
  refine returnsInHanded_of_change_and (C := Tryz.checked) (X := fun w _ => laidMetH Tryz.prog Rows.fnExactIssuedRow.laid w) (fun _ _ _ hh h => h.of_heap hh) own started (by kernel_rfl) Tryz.func6
    (ChangeSpec.witness_shaped (enc := enc) (C := Tryz.checked) (os := os) (X := fun w _ => laidMetH Tryz.prog Rows.fnExactIssuedRow.laid w) false (World.doorLaid Tryz.prog 111 os) #[.agg #[.int .i64 0, .int .i64 0, .int .i64 0, .int .i64 0, .slice none 0 0], .agg #[.int .i64 0, .int .i64 0, .int .i64 0, .int .i64 0, .string ByteArray.empty, .int .i64 0, .int .i64 0], .int .i64 0] 8 rfl (World.shaped_of_RefB (by kernel_rfl) (by kernel_rfl)) (by kernel_rfl) (by kernel_rfl) (by kernel_rfl) (door_met os _)) ?_
  intro W base args ds gs before hval0 hW hcnd _ hL _
  have hval : ∀ (j : Nat) t v, Tryz.f6.params[j]? = some t → args[j]? = some v → Value.okWide Tryz.prog W .any base t v := hval0
  have hW' := hW
  obtain ⟨p, q, hA0, hV, rfl, hfz, hnd⟩ := hW
  have hA : DataW.TrodAll enc Tryz.prog W 0 (fun _ => true) true Tryz.f6.params.toList args.toList ds p := hA0
  rw [Tryz.params6] at hA hval
  obtain ⟨v0, vs0, d0, ds0, p0, q0, hargs, rfl, rfl, h0, r0⟩ := trodAll_cons hA
  obtain ⟨v1, vs1, d1, ds1, p1, q1, rfl, rfl, rfl, h1, r1⟩ := trodAll_cons r0
  obtain ⟨v2, vs2, d2, ds2, p2, q2, rfl, rfl, rfl, h2, r2⟩ := trodAll_cons r1
  obtain ⟨rfl, rfl, rfl⟩ := trodAll_nil r2
  obtain rfl : args = #[v0, v1, v2] := by cases args; simp_all
  obtain ⟨gg0, gg1, gg2, gg3, gg4, rfl⟩ := list5 (trodVars_len hV)
  have k0 := h0
  have lt0 : ∀ x ∈ p0, x.block < W.heap.size := by obtain ⟨m, hm⟩ := k0; exact DataW.trod_lt m _ _ _ hm
  have k1 := h1
  have lt1 : ∀ x ∈ p1, x.block < W.heap.size := by obtain ⟨m, hm⟩ := k1; exact DataW.trod_lt m _ _ _ hm
  have k2 := h2
  have lt2 : ∀ x ∈ p2, x.block < W.heap.size := by obtain ⟨m, hm⟩ := k2; exact DataW.trod_lt m _ _ _ hm
  obtain ⟨i0, x0, y0, z0, a0, l0, c0, us0, rfl, vec0⟩ := open_region (hval 0 58 v0 rfl rfl) h0
  obtain ⟨ok1, ot1, oa1, ob1, os1, oc1, oe1, rfl, hs1⟩ := open_op (hval 1 61 v1 rfl rfl) h1
  obtain ⟨a2, rfl, rfl, rfl, wfa2⟩ := open_int Tryz.underlying2 (hval 2 2 v2 rfl rfl) h2
  clear hA0 hval0
  refine (walk i0 x0 y0 z0 a0 l0 c0 us0 ok1 ot1 oa1 ob1 os1 oc1 oe1 a2 W vec0 hs1 (sens_of hL)).mono fun e W' ⟨he, bel⟩ => ?_
  subst he
  exact ⟨_, rfl, _, _, _, [], _, _, hW', trodAll_mk1 (shut_bool Tryz.underlying4 _), (trodAll_cons_mk (Below.trod laidOut (by kernel_rfl) (of_decide_eq_true (by kernel_rfl)) k0 bel lt0) (trodAll_cons_mk (Below.trod laidOut (by kernel_rfl) (of_decide_eq_true (by kernel_rfl)) k1 bel lt1) (trodAll_cons_mk (Below.trod laidOut (by kernel_rfl) (of_decide_eq_true (by kernel_rfl)) k2 bel lt2) trodAll_mk0))), Below.trodVars laidOut bel (by kernel_rfl) hV, bel.frame _, fun h => by cases h⟩

theorem over : Rows.fnExactIssuedRow.holds Tryz.pinned (OpenSpec.ofChange Rows.fnExactIssuedSpec) :=
  OpenClaim.holds_of_wide 6 Tryz.f6 rfl rfl rfl rfl rfl rfl rfl ⟨rfl, rfl, rfl, rfl, rfl⟩ rfl rfl rfl rfl rfl (by kernel_rfl) Tryz.func6 (by kernel_rfl)
    (of_decide_eq_true (by kernel_rfl)) (by unfold Func.isWrapper; first | (rw [if_pos (by decide +kernel)]; kernel_rfl) | (rw [if_neg (by decide +kernel)]; exact ⟨rfl, rfl⟩))
    (fun os started H enc _ => lifted os started H enc)

theorem proved : Rows.FnExactIssuedCardSaid :=
  Claim7.holds_tied_plain_at .later [] [.handle, .sentinel, .sentinel, .sentinel, .sentinel, .sentinel] true (true, "d847580c0baf8cb44f53c281aef2f508ffd1520f54dc402e0f6ffdcf892a1bba") true
    over (fun _ h => by cases h) (by kernel_rfl) (fun _ h => by cases h) fnExactIssued_row_tie rfl ⟨rfl, rfl⟩ (by kernel_rfl) rfl
    (fun f fn hf hfn => by
      obtain rfl : f = 6 := Option.some.inj ((show Tryz.prog.funcNamed "loop.example/g00368/laws.FnExactIssued" = some 6 by kernel_rfl).symm.trans hf) |>.symm
      obtain rfl : fn = Tryz.f6 := (Option.some.inj (Tryz.func6.symm.trans hfn)).symm
      exact ⟨by kernel_rfl, fun j t ht => by
        rw [Tryz.params6] at ht
        have hm : t ∈ [58, 61, 2] := by simpa using Array.mem_of_getElem? ht
        have hall : ([58, 61, 2].all fun u => !Tryz.prog.wantsStandIn u) = true := by kernel_rfl
        exact (show Tryz.prog.wantsStandIn t = false by simpa using List.all_eq_true.1 hall t hm)⟩)
    (by kernel_rfl)

end Go.Proofs.YtccendmoeelniaaGreatDoor.exIssued
namespace Go.Proofs.YtccendmoeelniaaGreatDoor
theorem fnExactIssued_holds : Rows.FnExactIssuedCardSaid := exIssued.proved

end Go.Proofs.YtccendmoeelniaaGreatDoor
