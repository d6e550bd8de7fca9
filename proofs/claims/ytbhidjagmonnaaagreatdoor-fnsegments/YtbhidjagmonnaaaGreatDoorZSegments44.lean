/-
  Texts of one proof, joined: Rc5, Draw1, DrawStamp.
-/
import Derived.Test.YtbhidjagmonnaaaGreatDoorZSegments43
import Derived.Test.YtbhidjagmonnaaaGreatDoorRows
import Derived.Test.YtbhidjagmonnaaaGreatDoorZSegments00
import Derived.WalkKit
import Derived.ProofKit
import Derived.OpenShut
import Derived.Deep.RegionHeld3
import Derived.Deep.DrawnRows
namespace Go.Proofs.YtbhidjagmonnaaaGreatDoor
open Go.ChangeShapes Go.WideShapes Go.ChangeAt Go.RowKit Go.Shelf
set_option linter.unusedSimpArgs false
set_option linter.unusedVariables false

/-- What a round of RecoveredFrom holds. -/
structure RcI (W wr : World) (p : Nat) (s : ByteArray) (us : List M1.Upd) (a : Nat) (av : Option Addr) (c : Nat) : Prop where
  ha : a ≤ s.size
  mu : MU wr av us.length c (p + 1) wr.heap.size (ucell us)
  ok : Hid (M1.setOk us = true)
  rc : Hid (M1.rcv s us a = M1.rcv s [] 0)
  gr : Gr p W wr
/-- What the last call of 'taken' has answered. -/
def RcM (wr : World) (p : Nat) (s : ByteArray) (us : List M1.Upd) (a : Nat) (v7 v8 : Value) : Prop :=
  (∃ u av c, Hid (M1.stR s us a = some u) ∧ v8 = .bool true ∧ v7 = .slice av (M1.insD us u).length c ∧ MU wr av (M1.insD us u).length c (p + 1) wr.heap.size (ucell (M1.insD us u)) ∧ SRd wr p s (a + 5 + M1.lnAt s a)) ∨
  (Hid (M1.stR s us a = none) ∧ v7 = .slice none 0 0 ∧ v8 = .bool false)
theorem rcI_step {W wr w' : World} {p : Nat} {s : ByteArray} {us : List M1.Upd} {a : Nat} {av : Option Addr} {c : Nat} {e : Ending} (h : RcI W wr p s us a av c) (hk : Tkn wr w' e p s us a) (hg : Gr p wr w') (hp : p < wr.heap.size) :
    RcI W w' p s us a av c ∧ ∃ v7 v8, e = .returned (.tuple #[v7, v8]) ∧ RcM w' p s us a v7 v8 := by
  refine ⟨⟨h.ha, (h.mu.off hg (.inl (by omega))).wider (Nat.le_refl _) hg.size, h.ok, h.rc, gr_trans h.gr hg⟩, ?_⟩
  rcases hk with ⟨u, av, c, h1, rfl, mu, r⟩ | ⟨h1, rfl⟩
  · exact ⟨_, _, rfl, .inl ⟨u, av, c, h1, rfl, rfl, mu.wider (by omega) (Nat.le_refl _), r⟩⟩
  · exact ⟨_, _, rfl, .inr ⟨h1, rfl, rfl⟩⟩
theorem rcI_next {W wr : World} {p : Nat} {s : ByteArray} {us : List M1.Upd} {a : Nat} {av av2 : Option Addr} {c c2 : Nat} {u : M1.Upd} (h : RcI W wr p s us a av c) (hu : M1.stR s us a = some u) (mu : MU wr av2 (M1.insD us u).length c2 (p + 1) wr.heap.size (ucell (M1.insD us u))) :
    RcI W wr p s (M1.insD us u) (a + 5 + M1.lnAt s a) av2 c2 :=
  ⟨(M1.frU_some (M1.stR_some hu).1).1.2.2.1, mu, (M1.nxt_true (M1.stR_some hu).2).2, (by rw [← h.rc.out, M1.rcv_some hu] : _ = _), h.gr⟩

set_option maxHeartbeats 8000000 in
set_option maxRecDepth 100000 in
theorem recoveredFrom_impl (s : ByteArray) (w : World) (hs : s.size ≤ 2000000) (hm : MaxIn w) :
    Calls Tryz.prog 11 #[.string s] w fun e w' => Rcd w w' e s ∧ Below w.heap.size w w' := by
  have hsm : s.size ≤ maxLen := by unfold maxLen; omega
  have hA : Below w.heap.size w (w.alloc (.cells #[.string s, .int .i64 0] 55)) := (Below.refl _ _).alloc (Nat.le_refl _) _
  have r0 : SRd (w.alloc (.cells #[.string s, .int .i64 0] 55)) w.heap.size s 0 := (RowAt.new w #[.string s, .int .i64 0] 55).same fun o ho => by
    match o, ho with
    | 0, _ => rfl
    | 1, _ => rfl
  go_enter Tryz.func11, Tryz.ntmps11
  go_upto_region 2 with fail
  obtain ⟨W0, hW0⟩ : ∃ W, w.alloc (.cells #[.string s, .int .i64 0] 55) = W := ⟨_, rfl⟩
  rw [hW0] at hA r0 ⊢
  clear hW0
  have hm0 := hm.below hA
  have hpG : ¬ 1 = w.heap.size := by have := hm.1; omega
  obtain ⟨p, hp⟩ : ∃ p, Hid (w.heap.size = p) := ⟨_, rfl⟩
  rw [hp.out] at r0 hpG ⊢
  have hpl := r0.lt
  have I0 : RcI W0 W0 p s [] 0 none 0 := ⟨Nat.zero_le _, ⟨Nat.le_refl _, Nat.zero_le _, Or.inl ⟨rfl, rfl⟩⟩, rfl, rfl, gr_refl _ _⟩
  go_wp2_with fail
  refine (staken_any p s 0 [] none 0 (p + 1) _ r0 hsm (Nat.zero_le _) hm0 hpG I0.mu (by omega) rfl).mono ?_
  rintro e w1 ⟨T1, G1⟩
  obtain ⟨I1, v7, v8, rfl, M1'⟩ := rcI_step I0 T1 G1 hpl
  clear T1 G1 I0 r0
  go_wp2_with fail
  go_loopw [5, 6, 7, 8] (fun v5 v6 v7 v8 wr => ∃ (us : List M1.Upd) (a : Nat) (av : Option Addr) (c : Nat), v6 = .int .i64 a ∧ v5 = .slice av us.length c ∧ RcI W0 wr p s us a av c ∧ RcM wr p s us a v7 v8) (fun _ v6 _ _ _ => s.size - (intOf v6).toNat)
  case atStart => exact ⟨[], 0, none, 0, rfl, rfl, I1, M1'⟩
  case round =>
    clear I1 M1'
    obtain ⟨us, a, av, c, rfl, rfl, I, M⟩ := hrel
    have hpw : p < wr.heap.size := Nat.lt_of_lt_of_le hpl I.gr.size
    rcases M with ⟨u, av2, c2, HU, rfl, rfl, mu2, r⟩ | ⟨HN, rfl, rfl⟩
    · have J := rcI_next I HU.out mu2
      have hlt : a < a + 5 + M1.lnAt s a := by omega
      obtain ⟨b, hb⟩ : ∃ b, Hid (a + 5 + M1.lnAt s a = b) := ⟨_, rfl⟩
      obtain ⟨ns, hns⟩ : ∃ ns, Hid (M1.insD us u = ns) := ⟨_, rfl⟩
      rw [hb.out] at J r hlt
      rw [hns.out] at J ⊢
      clear mu2 I
      have c1 := r.c1
      have hbs := J.ha
      go_wp2_with fail
      refine wp_region_held_drew (S := fun w' => Kp wr w') (by kernel_rfl) ?_ (fun hHeld => ?_)
      · exact kp_zero _
      refine wpAnyH_take (i := 0) (v := ?_) rfl (by kernel_rfl) (by kernel_rfl) (by kernel_rfl) (fun _ _ _ h => h) (Or.inl ⟨by rfl, ?_⟩) hHeld ?_
      rotate_left
      · (intro w hSw; (try dsimp only at hSw); go_simp; try (with_reducible rfl))
      (try simp only [Act.put, aZ, bZ, cZ, dZ, eZ, fZ])
      refine wpAnyH_take (i := 1) (v := ?_) rfl (by kernel_rfl) (by kernel_rfl) (by kernel_rfl) (fun _ _ _ h => h) (Or.inl ⟨by rfl, ?_⟩) hHeld ?_
      rotate_left
      · (intro w hSw; (try dsimp only at hSw); go_simp; try (with_reducible rfl))
      (try simp only [Act.put, aZ, bZ, cZ, dZ, eZ, fZ])
      refine wpAnyH_take (i := 2) (v := ?_) rfl (by kernel_rfl) (by kernel_rfl) (by kernel_rfl) (fun _ _ _ h => h) (Or.inl ⟨by rfl, ?_⟩) hHeld ?_
      rotate_left
      · (intro w hSw; (try dsimp only at hSw); go_simp; try (with_reducible rfl))
      (try simp only [Act.put, aZ, bZ, cZ, dZ, eZ, fZ])
      refine wpAnyH_take (i := 3) (v := ?_) rfl (by kernel_rfl) (by kernel_rfl) (by kernel_rfl) (fun _ _ _ h => h) (Or.inl ⟨by rfl, ?_⟩) hHeld ?_
      rotate_left
      · (intro w hSw; (try dsimp only at hSw); go_simp; try (with_reducible rfl))
      (try simp only [Act.put, aZ, bZ, cZ, dZ, eZ, fZ])
      refine wpAnyH_take (i := 4) (v := ?_) rfl (by kernel_rfl) (by kernel_rfl) (by kernel_rfl) (fun _ _ _ h => h) (Or.inl ⟨by rfl, ?_⟩) hHeld ?_
      rotate_left
      · (intro w hSw; (try dsimp only at hSw); go_simp; try (with_reducible rfl))
      (try simp only [Act.put, aZ, bZ, cZ, dZ, eZ, fZ])
      refine wpAnyH_take (i := 5) (v := ?_) rfl (by kernel_rfl) (by kernel_rfl) (by kernel_rfl) (fun _ _ _ h => h) (Or.inl ⟨by rfl, ?_⟩) hHeld ?_
      rotate_left
      · (intro w hSw; (try dsimp only at hSw); go_simp; try (with_reducible rfl))
      (try simp only [Act.put, aZ, bZ, cZ, dZ, eZ, fZ])
      refine wpAnyH_take (i := 6) (v := ?_) rfl (by kernel_rfl) (by kernel_rfl) (by kernel_rfl) (fun _ _ _ h => h) (Or.inl ⟨by rfl, ?_⟩) hHeld ?_
      rotate_left
      · (intro w hSw; (try dsimp only at hSw); go_simp; try (with_reducible rfl))
      (try simp only [Act.put, aZ, bZ, cZ, dZ, eZ, fZ])
      refine wpAnyH_done (by kernel_rfl) ?_ _
      have hK1 := hHeld.1
      clear hHeld
      generalize wr.drew = W1 at hK1 ⊢
      have r1 : SRd W1 p s b := r.below hK1
      have J1 : RcI W0 W1 p s ns b av2 c2 := ⟨J.ha, (J.mu.below hK1).wider (Nat.le_refl _) hK1.size, J.ok, J.rc, gr_trans J.gr (gr_below hK1)⟩
      have hp1 := r1.lt
      have hm1 := hm0.gr J1.gr hpG
      clear r J hK1 c1
      go_wp2_with fail
      refine (staken_any p s b ns av2 c2 (p + 1) _ r1 hsm hbs hm1 hpG J1.mu (by omega) J1.ok).mono ?_
      rintro e w2 ⟨T2, G2⟩
      obtain ⟨I2, x7, x8, rfl, M2⟩ := rcI_step J1 T2 G2 hp1
      clear T2 G2 J1
      go_wp2_with fail
      exact ⟨⟨ns, b, av2, c2, rfl, rfl, I2, M2⟩, by simp [intOf]; omega⟩
    · have hB : Below w.heap.size w wr := (gr_to I.gr (B := w.heap.size) hA.size (by rw [hp.out]; exact Nat.le_refl _)) |> fun h => hA.trans h
      have mu := I.mu.wider (lo' := w.heap.size) (by have := hp.out; omega) (Nat.le_refl _)
      go_wp2_with fail
      refine bodyPost_ret (v := .tuple #[.slice av us.length c, .int .i64 (a : Int)]) (by simp [results, Tryz.results11, go_sem]) rfl ?_
      exact ⟨rcd_of I.rc.out HN.out mu, hB⟩
end Go.Proofs.YtbhidjagmonnaaaGreatDoor

namespace Go.Proofs.YtbhidjagmonnaaaGreatDoor
open Go.ChangeShapes Go.WideShapes Go.ChangeAt Go.RowKit

set_option maxHeartbeats 1000000 in
theorem next_any (g : Nat) (av : Option Addr) (len cap : Nat) (w : World) (h : Rdr w g av len cap) :
    Calls Tryz.prog 64 #[.pointer (some ⟨g, 0, none⟩)] w fun e w' => ∃ x : Int, e = .returned (.int .i64 x) ∧ 0 ≤ x ∧ x ≤ 255 ∧ Rdr w' g av len cap ∧ Gr g w w' := by
  have hg := h.lt
  have c0 := h.c0
  have f1 := h.f1
  have hc := h.hc
  have hm := h.hm
  unfold maxLen at hm
  obtain ⟨p, hp, c1⟩ := h.c1
  by_cases hlt : p < len
  · rcases h.lies with h0 | ⟨b, off, rfl, hb, hn, hz⟩
    · omega
    obtain ⟨z, cz, z0, z1⟩ := hz p hlt
    have i0 : (0 : Int) ≤ (p : Int) := by omega
    have i1 : (p : Int) < (len : Int) := by omega
    have hn2 : ¬ g = b := fun e => hn e.symm
    go_enter Tryz.func64, Tryz.ntmps64
    go_wp2_with fail
    go_region_held3 (fun w' => Kp w w') (first | exact kp_zero _ | exact kp_drew (by assumption) | exact kp_step (by assumption) (by assumption)) (fail)
    go_wp2_with fail
    have hR := (h.set (p := p + 1) (by omega)).below (Below.refl _ _).drew
    have hG := gr_drew (gr_set (gr_refl g w) 1 (.int .i64 ((p + 1 : Nat))))
    have d0 : (w.setCell ⟨g, 1, none⟩ (.int .i64 ((p + 1 : Nat)))).drew.cell? ⟨g, 0, none⟩ = some (.slice (some ⟨b, off, none⟩) len cap) := hR.c0
    have d1 : (w.setCell ⟨g, 1, none⟩ (.int .i64 ((p + 1 : Nat)))).drew.cell? ⟨g, 1, none⟩ = some (.int .i64 ((p + 1 : Nat))) := World.cell?_setCell_same w _ _ c1
    have d2 : (w.setCell ⟨g, 1, none⟩ (.int .i64 ((p + 1 : Nat)))).drew.cell? ⟨b, off + p, none⟩ = some (.int .u8 z) := (gr_cell hG hb hn _).trans cz
    have hg2 := hR.lt
    have hb2 : b < (w.setCell ⟨g, 1, none⟩ (.int .i64 ((p + 1 : Nat)))).drew.heap.size := Nat.lt_of_lt_of_le hb hG.size
    have ep : ((p + 1 : Nat) : Int) = (p : Int) + 1 := by omega
    rw [ep] at hR hG d0 d1 d2 hg2 hb2
    clear ep c0 c1 cz
    generalize (w.setCell ⟨g, 1, none⟩ (.int .i64 ((p : Int) + 1))).drew = W1 at *
    have i2 : IntKind.i64.wrap (p : Int) = (p : Int) := IntWalk.i64_in _ (by omega)
    have i3 : IntKind.i64.wrap z = z := IntWalk.i64_in _ (by omega)
    go_region_held3 (fun w' => Kp W1 w') (first | exact kp_zero _ | exact kp_drew (by assumption) | exact kp_step (by assumption) (by assumption)) (fail)
    go_wp2_with fail
    go_ret
    exact ⟨z, rfl, z0, z1, hR.below (Below.refl _ _).drew, gr_drew hG⟩
  · go_enter Tryz.func64, Tryz.ntmps64
    go_wp2_with fail
    go_region_held3 (fun w' => Kp w w') (first | exact kp_zero _ | exact kp_drew (by assumption) | exact kp_step (by assumption) (by assumption)) (fail)
    go_wp2_with fail
    go_ret
    exact ⟨0, rfl, by omega, by omega, h.below (Below.refl _ _).drew, gr_drew (gr_refl _ _)⟩

set_option maxHeartbeats 1000000 in
theorem below_any (g : Nat) (av : Option Addr) (len cap : Nat) (n : Int) (w : World) (h : Rdr w g av len cap) (h1 : 1 ≤ n) (h2 : n ≤ 1000000000) :
    Calls Tryz.prog 39 #[.pointer (some ⟨g, 0, none⟩), .int .i64 n] w fun e w' => ∃ x : Int, e = .returned (.int .i64 x) ∧ 0 ≤ x ∧ x < n ∧ Rdr w' g av len cap ∧ Gr g w w' := by
  by_cases a1 : n ≤ 1
  · go_enter Tryz.func39, Tryz.ntmps39
    go_wp2_with fail
    go_ret
    exact ⟨0, rfl, by omega, by omega, h, gr_refl _ _⟩
  · by_cases a2 : n ≤ 256
    · go_enter Tryz.func39, Tryz.ntmps39
      go_wp2_with fail
      refine (next_any _ _ _ _ _ h).mono ?_
      rintro e w1 ⟨x, rfl, x0, x1, hR, hG⟩
      go_wp2_with fail
      go_ret
      exact ⟨x % n, rfl, Int.emod_nonneg _ (by omega), Int.emod_lt_of_pos _ (by omega), hR, hG⟩
    · go_enter Tryz.func39, Tryz.ntmps39
      go_wp2_with fail
      refine (next_any _ _ _ _ _ h).mono ?_
      rintro e w1 ⟨x, rfl, x0, x1, hR, hG⟩
      go_wp2_with fail
      refine (next_any _ _ _ _ _ hR).mono ?_
      rintro e w2 ⟨y, rfl, y0, y1, hR2, hG2⟩
      go_wp2_with fail
      go_ret
      exact ⟨(x * 256 + y) % n, rfl, Int.emod_nonneg _ (by omega), Int.emod_lt_of_pos _ (by omega), hR2, gr_trans hG hG2⟩

theorem once_any (g : Nat) (av : Option Addr) (len cap : Nat) (n : Int) (w : World) (h : Rdr w g av len cap) (h1 : 1 ≤ n) (h2 : n ≤ 1000000000) :
    Calls Tryz.prog 24 #[.pointer (some ⟨g, 0, none⟩), .int .i64 n] w fun e w' => ∃ x : Bool, e = .returned (.bool x) ∧ Rdr w' g av len cap ∧ Gr g w w' := by
  go_enter Tryz.func24, Tryz.ntmps24
  go_wp2_with fail
  refine (below_any _ _ _ _ _ _ h h1 h2).mono ?_
  rintro e w1 ⟨x, rfl, x0, x1, hR, hG⟩
  go_wp2_with fail
  go_ret
  exact ⟨_, rfl, hR, hG⟩

set_option maxHeartbeats 1000000 in
theorem word_any (g : Nat) (av : Option Addr) (len cap : Nat) (w : World) (h : Rdr w g av len cap) :
    Calls Tryz.prog 88 #[.pointer (some ⟨g, 0, none⟩)] w fun e w' => ∃ x : Int, e = .returned (.int .u64 x) ∧ 0 ≤ x ∧ x ≤ 18446744073709551615 ∧ Rdr w' g av len cap ∧ Gr g w w' := by
  go_enter Tryz.func88, Tryz.ntmps88
  go_wp2_with fail
  go_loopw [3, 4] (fun x i wr => ∃ (k : Nat) (y : Int), k ≤ 8 ∧ i = .int .i64 k ∧ x = .int .u64 y ∧ 0 ≤ y ∧ y ≤ 18446744073709551615 ∧ Rdr wr g av len cap ∧ Gr g w wr) (fun _ i _ => 8 - (intOf i).toNat)
  case atStart => exact ⟨0, 0, by omega, rfl, rfl, by omega, by omega, h, gr_refl _ _⟩
  case round =>
    obtain ⟨k, y, hk, rfl, rfl, y0, y1, hR, hG⟩ := hrel
    by_cases hlt : k < 8
    · go_wp2_with fail
      refine (next_any _ _ _ _ _ hR).mono ?_
      rintro e w1 ⟨z, rfl, z0, z1, hR2, hG2⟩
      go_wp2_with fail
      have hw := bounds_u64 (wf_bits .or .u64 (IntKind.u64.wrap (y * 256)) z)
      exact ⟨⟨k + 1, _, by omega, by go_num, rfl, hw.1, hw.2, hR2, gr_trans hG hG2⟩, by simp [intOf]; omega⟩
    · go_wp2_with fail
      go_ret
      exact ⟨y, rfl, y0, y1, hR, hG⟩

set_option maxHeartbeats 1000000 in
theorem near_any (g : Nat) (av : Option Addr) (len cap : Nat) (lo hi : Int) (w : World) (h : Rdr w g av len cap) (h1 : -1000000000 ≤ lo) (h2 : lo ≤ hi) (h3 : hi ≤ 1000000000) :
    Calls Tryz.prog 73 #[.pointer (some ⟨g, 0, none⟩), .int .i64 lo, .int .i64 hi] w fun e w' => ∃ x : Int, e = .returned (.int .i64 x) ∧ lo ≤ x ∧ x ≤ hi ∧ Rdr w' g av len cap ∧ Gr g w w' := by
  go_enter Tryz.func73, Tryz.ntmps73
  go_wp2_with fail
  refine (below_any _ _ _ _ _ _ h (by omega) (by omega)).mono ?_
  rintro e w1 ⟨x, rfl, x0, x1, hR, hG⟩
  by_cases a0 : x = 0
  · have b0 : (x == 0) = true := by simp [a0]
    clear a0
    go_wp2_with fail
    go_ret
    exact ⟨lo, rfl, by omega, by omega, hR, hG⟩
  · have b0 : (x == 0) = false := by simp [a0]
    by_cases a1 : x = 1
    · have b1 : (x == 1) = true := by simp [a1]
      clear a0 a1
      go_wp2_with fail
      go_ret
      exact ⟨hi, rfl, by omega, by omega, hR, hG⟩
    · have b1 : (x == 1) = false := by simp [a1]
      clear a0 a1
      go_wp2_with fail
      refine (word_any _ _ _ _ _ hR).mono ?_
      rintro e w2 ⟨y, rfl, y0, y1, hR2, hG2⟩
      go_wp2_with fail
      have m0 : 0 ≤ y / 2 % (hi - lo + 1) := Int.emod_nonneg _ (by omega)
      have m1 : y / 2 % (hi - lo + 1) < hi - lo + 1 := Int.emod_lt_of_pos _ (by omega)
      generalize y / 2 % (hi - lo + 1) = m at *
      have e1 : wrap64 m = m := by rw [← IntWalk.i64_left]; exact IntWalk.i64_in _ (by omega)
      have e2 : wrap64 (lo + m) = lo + m := by rw [← IntWalk.i64_left]; exact IntWalk.i64_in _ (by omega)
      rw [e1, e2]
      go_ret
      exact ⟨lo + m, rfl, by omega, by omega, hR2, gr_trans hG hG2⟩

set_option maxHeartbeats 1000000 in
theorem off_any (g : Nat) (av : Option Addr) (len cap : Nat) (lo hi : Int) (w : World) (h : Rdr w g av len cap) (h1 : -1000000000 ≤ lo) (h2 : lo ≤ hi) (h3 : hi ≤ 1000000000) :
    Calls Tryz.prog 48 #[.pointer (some ⟨g, 0, none⟩), .int .i64 lo, .int .i64 hi] w fun e w' => ∃ x : Int, e = .returned (.int .i64 x) ∧ -9223372036854775808 ≤ x ∧ x ≤ 9223372036854775807 ∧ Rdr w' g av len cap ∧ Gr g w w' := by
  go_enter Tryz.func48, Tryz.ntmps48
  go_wp2_with fail
  refine (once_any _ _ _ _ _ _ h (by omega) (by omega)).mono ?_
  rintro e w1 ⟨x, rfl, hR, hG⟩
  cases x with
  | false =>
    go_wp2_with fail
    refine (near_any _ _ _ _ _ _ _ hR h1 h2 h3).mono ?_
    rintro e w2 ⟨y, rfl, y0, y1, hR2, hG2⟩
    go_wp2_with fail
    go_ret
    exact ⟨y, rfl, by omega, by omega, hR2, gr_trans hG hG2⟩
  | true =>
    go_wp2_with fail
    refine (below_any _ _ _ _ _ _ (hR.below ((Below.refl _ _).alloc (Nat.le_refl _) _)) (by omega) (by omega)).mono ?_
    rintro e w2 ⟨y, rfl, y0, y1, hR2, hG2⟩
    have hG3 := gr_trans (gr_alloc (gr_refl g w1) _) hG2
    have hlt := hR.lt
    obtain ⟨rc, rf, rz, rn⟩ := gr_rules hG2
    have hne : ¬ w1.heap.size = g := by omega
    obtain rfl | rfl | rfl | rfl : y = 0 ∨ y = 1 ∨ y = 2 ∨ y = 3 := by omega
    all_goals
      go_wp2_with fail
      go_ret
      exact ⟨_, rfl, by omega, by omega, hR2, gr_trans hG hG3⟩
end Go.Proofs.YtbhidjagmonnaaaGreatDoor

namespace Go.Proofs.YtbhidjagmonnaaaGreatDoor
open Go.ChangeShapes Go.WideShapes Go.ChangeAt Go.RowKit

/-- Numbers that an int64 can be. -/
def I64 (x : Int) : Prop := -9223372036854775808 ≤ x ∧ x ≤ 9223372036854775807

set_option maxHeartbeats 4000000 in
theorem stamp_any (g : Nat) (av : Option Addr) (len cap : Nat) (w : World) (h : Rdr w g av len cap) :
    Calls Tryz.prog 46 #[.pointer (some ⟨g, 0, none⟩)] w fun e w' => ∃ a b c : Int, e = .returned (.agg #[.int .i64 a, .int .i64 b, .int .i64 c]) ∧ I64 a ∧ I64 b ∧ I64 c ∧ Rdr w' g av len cap ∧ Gr g w w' := by
  have hg := h.lt
  have hne0 : ¬ w.heap.size = g := by omega
  go_enter Tryz.func46, Tryz.ntmps46
  go_wp2_with fail
  refine (below_any _ _ _ _ _ _ (h.below ((Below.refl _ _).alloc (Nat.le_refl _) _)) (by omega) (by omega)).mono ?_
  rintro e w1 ⟨x, rfl, x0, x1, hR1, hG1⟩
  go_wp2_with fail
  refine (below_any _ _ _ _ _ _ hR1 (by omega) (by omega)).mono ?_
  rintro e w2 ⟨y, rfl, y0, y1, hR2, hG2⟩
  go_wp2_with fail
  refine (below_any _ _ _ _ _ _ hR2 (by omega) (by omega)).mono ?_
  rintro e w3 ⟨z, rfl, z0, z1, hR3, hG3⟩
  have hG := gr_trans hG1 (gr_trans hG2 hG3)
  clear hG1 hG2 hG3 hR1 hR2
  obtain ⟨rc, rf, rz, rn⟩ := gr_rules hG
  have hs3 := hG.size
  simp at hs3
  have hs3a : w.heap.size < w3.heap.size := by omega
  have hne3 : ¬ w3.heap.size = g := by have := hR3.lt; omega
  go_wp2_with fail
  refine (below_any _ _ _ _ _ _ (hR3.below ((Below.refl _ _).alloc (Nat.le_refl _) _)) (by omega) (by omega)).mono ?_
  rintro e w4 ⟨t, rfl, t0, t1, hR4, hG4⟩
  have hs4 := hG4.size
  simp at hs4
  obtain ⟨sc, sf, sz, sn⟩ := gr_rules hG4
  have hs4a : w.heap.size < w4.heap.size := by omega
  have hs4b : w3.heap.size < w4.heap.size := by omega
  have hs4c : w.heap.size < w3.heap.size + 1 := by omega
  by_cases a17 : t = 17
  · have b17 : (t == 17) = true := by simp [a17]
    clear a17
    go_wp2_with fail
    refine (off_any _ _ _ _ _ _ _ hR4 (by omega) (by omega) (by omega)).mono ?_
    rintro e w5 ⟨u, rfl, u0, u1, hR5, hG5⟩
    have hG5' := gr_trans hG4 hG5
    clear sc sf sz sn
    obtain ⟨sc, sf, sz, sn⟩ := gr_rules hG5'
    have hs5 := hG5'.size
    simp at hs5
    have hs5a : w.heap.size < w5.heap.size := by omega
    have hs5b : w3.heap.size < w5.heap.size := by omega
    go_wp2_with fail
    have HG : Gr g w w5 := gr_trans (gr_alloc (gr_refl g w) _) (gr_trans hG (gr_trans (gr_alloc (gr_refl g w3) _) hG5'))
    refine bodyPost_ret (v := .agg #[.int .i64 u, .int .i64 y, .int .i64 (1 + z)]) (by simp [results, Tryz.results46, go_sem, cell_set_same, *]) rfl ⟨_, _, _, rfl, by unfold I64; omega, by unfold I64; omega, by unfold I64; omega, ?_, ?_⟩
    · repeat (first | exact hR5 | ((with_reducible refine Rdr.far ?_ ?_ ?_ _); rotate_left; (focus (simp; omega)); (focus (exact h.old (by simp <;> omega)))))
    · repeat (first | exact HG | ((with_reducible refine gr_new ?_ _ ?_ _); rotate_left; (focus (simp <;> omega))))
  · have b17 : (t == 17) = false := by simp [a17]
    by_cases a18 : t = 18
    · have b18 : (t == 18) = true := by simp [a18]
      clear a17 a18
      go_wp2_with fail
      refine (below_any _ _ _ _ _ _ hR4 (by omega) (by omega)).mono ?_
      rintro e w5 ⟨u, rfl, u0, u1, hR5, hG5⟩
      have hG5' := gr_trans hG4 hG5
      clear sc sf sz sn
      obtain ⟨sc, sf, sz, sn⟩ := gr_rules hG5'
      have hs5 := hG5'.size
      simp at hs5
      have hs5a : w.heap.size < w5.heap.size := by omega
      have hs5b : w3.heap.size < w5.heap.size := by omega
      go_wp2_with fail
      have HG : Gr g w w5 := gr_trans (gr_alloc (gr_refl g w) _) (gr_trans hG (gr_trans (gr_alloc (gr_refl g w3) _) hG5'))
      refine bodyPost_ret (v := .agg #[.int .i64 x, .int .i64 (1000000 - u), .int .i64 (1 + z)]) (by simp [results, Tryz.results46, go_sem, cell_set_same, *]) rfl ⟨_, _, _, rfl, by unfold I64; omega, by unfold I64; omega, by unfold I64; omega, ?_, ?_⟩
      · repeat (first | exact hR5 | ((with_reducible refine Rdr.far ?_ ?_ ?_ _); rotate_left; (focus (simp; omega)); (focus (exact h.old (by simp <;> omega)))))
      · repeat (first | exact HG | ((with_reducible refine gr_new ?_ _ ?_ _); rotate_left; (focus (simp <;> omega))))
    · have b18 : (t == 18) = false := by simp [a18]
      by_cases a19 : t = 19
      · have b19 : (t == 19) = true := by simp [a19]
        clear a17 a18 a19
        go_wp2_with fail
        refine (off_any _ _ _ _ _ _ _ hR4 (by omega) (by omega) (by omega)).mono ?_
        rintro e w5 ⟨u, rfl, u0, u1, hR5, hG5⟩
        have hG5' := gr_trans hG4 hG5
        clear sc sf sz sn
        obtain ⟨sc, sf, sz, sn⟩ := gr_rules hG5'
        have hs5 := hG5'.size
        simp at hs5
        have hs5a : w.heap.size < w5.heap.size := by omega
        have hs5b : w3.heap.size < w5.heap.size := by omega
        go_wp2_with fail
        have HG : Gr g w w5 := gr_trans (gr_alloc (gr_refl g w) _) (gr_trans hG (gr_trans (gr_alloc (gr_refl g w3) _) hG5'))
        refine bodyPost_ret (v := .agg #[.int .i64 x, .int .i64 y, .int .i64 u]) (by simp [results, Tryz.results46, go_sem, cell_set_same, *]) rfl ⟨_, _, _, rfl, by unfold I64; omega, by unfold I64; omega, by unfold I64; omega, ?_, ?_⟩
        · repeat (first | exact hR5 | ((with_reducible refine Rdr.far ?_ ?_ ?_ _); rotate_left; (focus (simp; omega)); (focus (exact h.old (by simp <;> omega)))))
        · repeat (first | exact HG | ((with_reducible refine gr_new ?_ _ ?_ _); rotate_left; (focus (simp <;> omega))))
      · have b19 : (t == 19) = false := by simp [a19]
        clear a17 a18 a19
        go_wp2_with fail
        have HG : Gr g w w4 := gr_trans (gr_alloc (gr_refl g w) _) (gr_trans hG (gr_trans (gr_alloc (gr_refl g w3) _) hG4))
        refine bodyPost_ret (v := .agg #[.int .i64 x, .int .i64 y, .int .i64 (1 + z)]) (by simp [results, Tryz.results46, go_sem, cell_set_same, *]) rfl ⟨_, _, _, rfl, by unfold I64; omega, by unfold I64; omega, by unfold I64; omega, ?_, ?_⟩
        · repeat (first | exact hR4 | ((with_reducible refine Rdr.far ?_ ?_ ?_ _); rotate_left; (focus (simp; omega)); (focus (exact h.old (by simp <;> omega)))))
        · repeat (first | exact HG | ((with_reducible refine gr_new ?_ _ ?_ _); rotate_left; (focus (simp <;> omega))))
end Go.Proofs.YtbhidjagmonnaaaGreatDoor
