/-
  Texts of one proof, joined: Rc5, Set2.
-/
import Derived.Test.YtbhidjagmonnaaaGreatDoorZRecoveredFrom47
import Derived.Test.YtbhidjagmonnaaaGreatDoorZRecoveredFrom18
import Derived.Test.YtbhidjagmonnaaaGreatDoorZRecoveredFrom19
namespace Go.Proofs.YtbhidjagmonnaaaGreatDoor
open Go.ChangeShapes Go.WideShapes Go.ChangeAt Go.RowKit Go.Shelf
set_option linter.unusedSimpArgs false
set_option linter.unusedVariables false

/-- What a round of RecoveredFrom holds. -/
structure RcI (W wr : World) (p : Nat) (s : ByteArray) (us : List M1.Upd) (a : Nat) (av : Option Addr) (c : Nat) : Prop where
  ha : a ≤ s.size
  mu : MU wr av us.length c (p + 1) wr.heap.size (ucell us)
  ok : Hid (M1.setOk us = true)
  rc : Hid (M1.rcv s us a = M1.rcv s [] 0)
  gr : Gr p W wr
/-- What the last call of 'taken' has answered. -/
def RcM (wr : World) (p : Nat) (s : ByteArray) (us : List M1.Upd) (a : Nat) (v7 v8 : Value) : Prop :=
  (∃ u av c, Hid (M1.stR s us a = some u) ∧ v8 = .bool true ∧ v7 = .slice av (M1.insD us u).length c ∧ MU wr av (M1.insD us u).length c (p + 1) wr.heap.size (ucell (M1.insD us u)) ∧ SRd wr p s (a + 5 + M1.lnAt s a)) ∨
  (Hid (M1.stR s us a = none) ∧ v7 = .slice none 0 0 ∧ v8 = .bool false)
theorem rcI_step {W wr w' : World} {p : Nat} {s : ByteArray} {us : List M1.Upd} {a : Nat} {av : Option Addr} {c : Nat} {e : Ending} (h : RcI W wr p s us a av c) (hk : Tkn wr w' e p s us a) (hg : Gr p wr w') (hp : p < wr.heap.size) :
    RcI W w' p s us a av c ∧ ∃ v7 v8, e = .returned (.tuple #[v7, v8]) ∧ RcM w' p s us a v7 v8 := by
  refine ⟨⟨h.ha, (h.mu.off hg (.inl (by omega))).wider (Nat.le_refl _) hg.size, h.ok, h.rc, gr_trans h.gr hg⟩, ?_⟩
  rcases hk with ⟨u, av, c, h1, rfl, mu, r⟩ | ⟨h1, rfl⟩
  · exact ⟨_, _, rfl, .inl ⟨u, av, c, h1, rfl, rfl, mu.wider (by omega) (Nat.le_refl _), r⟩⟩
  · exact ⟨_, _, rfl, .inr ⟨h1, rfl, rfl⟩⟩
theorem rcI_next {W wr : World} {p : Nat} {s : ByteArray} {us : List M1.Upd} {a : Nat} {av av2 : Option Addr} {c c2 : Nat} {u : M1.Upd} (h : RcI W wr p s us a av c) (hu : M1.stR s us a = some u) (mu : MU wr av2 (M1.insD us u).length c2 (p + 1) wr.heap.size (ucell (M1.insD us u))) :
    RcI W wr p s (M1.insD us u) (a + 5 + M1.lnAt s a) av2 c2 :=
  ⟨(M1.frU_some (M1.stR_some hu).1).1.2.2.1, mu, (M1.nxt_true (M1.stR_some hu).2).2, (by rw [← h.rc.out, M1.rcv_some hu] : _ = _), h.gr⟩

set_option maxHeartbeats 8000000 in
set_option maxRecDepth 100000 in
theorem recoveredFrom_impl (s : ByteArray) (w : World) (hs : s.size ≤ 2000000) (hm : MaxIn w) :
    Calls Tryz.prog 11 #[.string s] w fun e w' => Rcd w w' e s ∧ Below w.heap.size w w' := by
  have hsm : s.size ≤ maxLen := by unfold maxLen; omega
  have hA : Below w.heap.size w (w.alloc (.cells #[.string s, .int .i64 0] 55)) := (Below.refl _ _).alloc (Nat.le_refl _) _
  have r0 : SRd (w.alloc (.cells #[.string s, .int .i64 0] 55)) w.heap.size s 0 := (RowAt.new w #[.string s, .int .i64 0] 55).same fun o ho => by
    match o, ho with
    | 0, _ => rfl
    | 1, _ => rfl
  go_enter Tryz.func11, Tryz.ntmps11
  go_upto_region 2 with fail
  obtain ⟨W0, hW0⟩ : ∃ W, w.alloc (.cells #[.string s, .int .i64 0] 55) = W := ⟨_, rfl⟩
  rw [hW0] at hA r0 ⊢
  clear hW0
  have hm0 := hm.below hA
  have hpG : ¬ 1 = w.heap.size := by have := hm.1; omega
  obtain ⟨p, hp⟩ : ∃ p, Hid (w.heap.size = p) := ⟨_, rfl⟩
  rw [hp.out] at r0 hpG ⊢
  have hpl := r0.lt
  have I0 : RcI W0 W0 p s [] 0 none 0 := ⟨Nat.zero_le _, ⟨Nat.le_refl _, Nat.zero_le _, Or.inl ⟨rfl, rfl⟩⟩, rfl, rfl, gr_refl _ _⟩
  go_wp2_with fail
  refine (staken_any p s 0 [] none 0 (p + 1) _ r0 hsm (Nat.zero_le _) hm0 hpG I0.mu (by omega) rfl).mono ?_
  rintro e w1 ⟨T1, G1⟩
  obtain ⟨I1, v7, v8, rfl, M1'⟩ := rcI_step I0 T1 G1 hpl
  clear T1 G1 I0 r0
  go_wp2_with fail
  go_loopw [5, 6, 7, 8] (fun v5 v6 v7 v8 wr => ∃ (us : List M1.Upd) (a : Nat) (av : Option Addr) (c : Nat), v6 = .int .i64 a ∧ v5 = .slice av us.length c ∧ RcI W0 wr p s us a av c ∧ RcM wr p s us a v7 v8) (fun _ v6 _ _ _ => s.size - (intOf v6).toNat)
  case atStart => exact ⟨[], 0, none, 0, rfl, rfl, I1, M1'⟩
  case round =>
    clear I1 M1'
    obtain ⟨us, a, av, c, rfl, rfl, I, M⟩ := hrel
    have hpw : p < wr.heap.size := Nat.lt_of_lt_of_le hpl I.gr.size
    rcases M with ⟨u, av2, c2, HU, rfl, rfl, mu2, r⟩ | ⟨HN, rfl, rfl⟩
    · have J := rcI_next I HU.out mu2
      have hlt : a < a + 5 + M1.lnAt s a := by omega
      obtain ⟨b, hb⟩ : ∃ b, Hid (a + 5 + M1.lnAt s a = b) := ⟨_, rfl⟩
      obtain ⟨ns, hns⟩ : ∃ ns, Hid (M1.insD us u = ns) := ⟨_, rfl⟩
      rw [hb.out] at J r hlt
      rw [hns.out] at J ⊢
      clear mu2 I
      have c1 := r.c1
      have hbs := J.ha
      go_wp2_with fail
      refine wp_region_held_drew (S := fun w' => Kp wr w') (by kernel_rfl) ?_ (fun hHeld => ?_)
      · exact kp_zero _
      refine wpAnyH_take (i := 0) (v := ?_) rfl (by kernel_rfl) (by kernel_rfl) (by kernel_rfl) (fun _ _ _ h => h) (Or.inl ⟨by rfl, ?_⟩) hHeld ?_
      rotate_left
      · (intro w hSw; (try dsimp only at hSw); go_simp; try (with_reducible rfl))
      (try simp only [Act.put, List.getElem_toArray, List.getElem_cons_zero, List.getElem_cons_succ, List.setIfInBounds_toArray, List.set_cons_zero, List.set_cons_succ])
      refine wpAnyH_take (i := 1) (v := ?_) rfl (by kernel_rfl) (by kernel_rfl) (by kernel_rfl) (fun _ _ _ h => h) (Or.inl ⟨by rfl, ?_⟩) hHeld ?_
      rotate_left
      · (intro w hSw; (try dsimp only at hSw); go_simp; try (with_reducible rfl))
      (try simp only [Act.put, List.getElem_toArray, List.getElem_cons_zero, List.getElem_cons_succ, List.setIfInBounds_toArray, List.set_cons_zero, List.set_cons_succ])
      refine wpAnyH_take (i := 2) (v := ?_) rfl (by kernel_rfl) (by kernel_rfl) (by kernel_rfl) (fun _ _ _ h => h) (Or.inl ⟨by rfl, ?_⟩) hHeld ?_
      rotate_left
      · (intro w hSw; (try dsimp only at hSw); go_simp; try (with_reducible rfl))
      (try simp only [Act.put, List.getElem_toArray, List.getElem_cons_zero, List.getElem_cons_succ, List.setIfInBounds_toArray, List.set_cons_zero, List.set_cons_succ])
      refine wpAnyH_take (i := 3) (v := ?_) rfl (by kernel_rfl) (by kernel_rfl) (by kernel_rfl) (fun _ _ _ h => h) (Or.inl ⟨by rfl, ?_⟩) hHeld ?_
      rotate_left
      · (intro w hSw; (try dsimp only at hSw); go_simp; try (with_reducible rfl))
      (try simp only [Act.put, List.getElem_toArray, List.getElem_cons_zero, List.getElem_cons_succ, List.setIfInBounds_toArray, List.set_cons_zero, List.set_cons_succ])
      refine wpAnyH_take (i := 4) (v := ?_) rfl (by kernel_rfl) (by kernel_rfl) (by kernel_rfl) (fun _ _ _ h => h) (Or.inl ⟨by rfl, ?_⟩) hHeld ?_
      rotate_left
      · (intro w hSw; (try dsimp only at hSw); go_simp; try (with_reducible rfl))
      (try simp only [Act.put, List.getElem_toArray, List.getElem_cons_zero, List.getElem_cons_succ, List.setIfInBounds_toArray, List.set_cons_zero, List.set_cons_succ])
      refine wpAnyH_take (i := 5) (v := ?_) rfl (by kernel_rfl) (by kernel_rfl) (by kernel_rfl) (fun _ _ _ h => h) (Or.inl ⟨by rfl, ?_⟩) hHeld ?_
      rotate_left
      · (intro w hSw; (try dsimp only at hSw); go_simp; try (with_reducible rfl))
      (try simp only [Act.put, List.getElem_toArray, List.getElem_cons_zero, List.getElem_cons_succ, List.setIfInBounds_toArray, List.set_cons_zero, List.set_cons_succ])
      refine wpAnyH_take (i := 6) (v := ?_) rfl (by kernel_rfl) (by kernel_rfl) (by kernel_rfl) (fun _ _ _ h => h) (Or.inl ⟨by rfl, ?_⟩) hHeld ?_
      rotate_left
      · (intro w hSw; (try dsimp only at hSw); go_simp; try (with_reducible rfl))
      (try simp only [Act.put, List.getElem_toArray, List.getElem_cons_zero, List.getElem_cons_succ, List.setIfInBounds_toArray, List.set_cons_zero, List.set_cons_succ])
      refine wpAnyH_done (by kernel_rfl) ?_ _
      have hK1 := hHeld.1
      clear hHeld
      generalize wr.drew = W1 at hK1 ⊢
      have r1 : SRd W1 p s b := r.below hK1
      have J1 : RcI W0 W1 p s ns b av2 c2 := ⟨J.ha, (J.mu.below hK1).wider (Nat.le_refl _) hK1.size, J.ok, J.rc, gr_trans J.gr (gr_below hK1)⟩
      have hp1 := r1.lt
      have hm1 := hm0.gr J1.gr hpG
      clear r J hK1 c1
      go_wp2_with fail
      refine (staken_any p s b ns av2 c2 (p + 1) _ r1 hsm hbs hm1 hpG J1.mu (by omega) J1.ok).mono ?_
      rintro e w2 ⟨T2, G2⟩
      obtain ⟨I2, x7, x8, rfl, M2⟩ := rcI_step J1 T2 G2 hp1
      clear T2 G2 J1
      go_wp2_with fail
      exact ⟨⟨ns, b, av2, c2, rfl, rfl, I2, M2⟩, by simp [intOf]; omega⟩
    · have hB : Below w.heap.size w wr := (gr_to I.gr (B := w.heap.size) hA.size (by rw [hp.out]; exact Nat.le_refl _)) |> fun h => hA.trans h
      have mu := I.mu.wider (lo' := w.heap.size) (by have := hp.out; omega) (Nat.le_refl _)
      go_wp2_with fail
      refine bodyPost_ret (v := .tuple #[.slice av us.length c, .int .i64 (a : Int)]) (by simp [results, Tryz.results11, go_sem]) rfl ?_
      exact ⟨rcd_of I.rc.out HN.out mu, hB⟩
end Go.Proofs.YtbhidjagmonnaaaGreatDoor

namespace Go.Proofs.YtbhidjagmonnaaaGreatDoor
open Go.ChangeShapes Go.WideShapes Go.ChangeAt Go.RowKit
set_option linter.unusedSimpArgs false

theorem eqDot_self (a b : Int) (w : World) :
    Calls Tryz.prog 70 #[.agg #[.int .i64 a, .int .i64 b], .agg #[.int .i64 a, .int .i64 b]] w fun e w' => e = .returned (.bool true) ∧ Below w.heap.size w w' :=
  (eqDot_any a b a b w).mono fun e w' ⟨he, hb⟩ => ⟨by rw [he]; simp [M1.eqd], hb⟩

theorem eqSpan_self (a b c d : Int) (s : ByteArray) (w : World) :
    Calls Tryz.prog 72 #[.agg #[.int .i64 a, .int .i64 b, .string s, .int .i64 c, .int .i64 d], .agg #[.int .i64 a, .int .i64 b, .string s, .int .i64 c, .int .i64 d]] w fun e w' => e = .returned (.bool true) ∧ Below w.heap.size w w' := by
  go_enter Tryz.func72, Tryz.ntmps72
  go_wp2
  go_ret
  refine ⟨rfl, ?_⟩
  repeat (first | (with_reducible exact Below.refl _ _) | ((with_reducible refine Below.setCell ?_ ?_ _); rotate_left; (focus (first | omega | (simp; done) | (simp; omega)))) | ((with_reducible refine Below.alloc ?_ ?_ _); rotate_left; (focus (first | omega | (simp; done) | (simp; omega)))) | (with_reducible refine Below.drew ?_))

set_option maxHeartbeats 4000000 in
theorem eqUpdate_self (dr dn sw sc sr k tr id pa st en lv : Int) (s : ByteArray) (w : World) :
    Calls Tryz.prog 44 #[.agg #[.int .i64 dr, .int .i64 dn, .int .i64 sw, .int .i64 sc, .int .i64 sr, .int .i64 k, .int .i64 tr, .int .i64 id, .int .i64 pa, .string s, .int .i64 st, .int .i64 en, .int .i64 lv], .agg #[.int .i64 dr, .int .i64 dn, .int .i64 sw, .int .i64 sc, .int .i64 sr, .int .i64 k, .int .i64 tr, .int .i64 id, .int .i64 pa, .string s, .int .i64 st, .int .i64 en, .int .i64 lv]] w fun e w' => e = .returned (.bool true) ∧ Below w.heap.size w w' := by
  go_enter Tryz.func44, Tryz.ntmps44
  go_wp2_with fail
  refine (eqDot_self _ _ _).mono ?_
  rintro e w1 ⟨rfl, hb1⟩
  have hB1 := hb1
  clear hb1
  obtain ⟨hc1, hf1⟩ := bcell hB1
  have hz1 := hB1.size
  (try simp [Nat.succ_le_iff] at hz1)
  have hz1_0 : w.heap.size < w1.heap.size := by omega
  have hz1_1 : w.heap.size + 1 < w1.heap.size := by omega
  go_wp2_with fail
  refine (eqStamp_same _ _ _ _).mono ?_
  rintro e w2 ⟨rfl, hb2⟩
  have hB2 := hB1.trans (hb2.mono hB1.size)
  obtain ⟨hc2, hf2⟩ := bcell hB2
  have hz2 := hB2.size
  (try simp [Nat.succ_le_iff] at hz2)
  have hz2_0 : w.heap.size < w2.heap.size := by omega
  have hz2_1 : w.heap.size + 1 < w2.heap.size := by omega
  clear hb2 hB1 hc1 hf1 hz1 hz1_0 hz1_1
  go_wp2_with fail
  refine (eqSpan_self _ _ _ _ _ _).mono ?_
  rintro e w3 ⟨rfl, hb3⟩
  have hB3 := hB2.trans (hb3.mono hB2.size)
  obtain ⟨hc3, hf3⟩ := bcell hB3
  have hz3 := hB3.size
  (try simp [Nat.succ_le_iff] at hz3)
  have hz3_0 : w.heap.size < w3.heap.size := by omega
  have hz3_1 : w.heap.size + 1 < w3.heap.size := by omega
  clear hb3 hB2 hc2 hf2 hz2 hz2_0 hz2_1
  go_wp2_with fail
  go_ret
  refine ⟨rfl, ?_⟩
  repeat (first | (with_reducible exact Below.refl _ _) | ((with_reducible refine Below.setCell ?_ ?_ _); rotate_left; (focus (first | omega | (simp; done) | (simp; omega)))) | ((with_reducible refine Below.alloc ?_ ?_ _); rotate_left; (focus (first | omega | (simp; done) | (simp; omega)))) | (with_reducible refine Below.drew ?_) | ((with_reducible refine Below.trans ?_ (Below.mono hB3 ?_)); rotate_left; (focus (first | omega | (simp; done) | (simp; omega)))))

set_option maxHeartbeats 4000000 in
theorem eqUpdateS_self (av bv : Option Addr) (n cn cm : Nat) (us : List M1.Upd) (w : World) (h1 : IsUpds w av n cn us) (h2 : IsUpds w bv n cm us) :
    Calls Tryz.prog 19 #[.slice av n cn, .slice bv n cm] w fun e w' => e = .returned (.bool true) ∧ Below w.heap.size w w' := by
  have hm1 := h1.hcap
  have hm2 := h1.hmost
  have hm3 := h2.hcap
  have hm4 := h2.hmost
  unfold maxLen at hm2 hm4
  have hnb : ((n : Int) != (n : Int)) = false := by simp
  go_enter Tryz.func19, Tryz.ntmps19
  go_wp2
  go_loopw [5] (fun i wr => ∃ k : Nat, k ≤ n ∧ i = .int .i64 k ∧ Below w.heap.size w wr) (fun i _ => n - (intOf i).toNat)
  case atStart => exact ⟨0, Nat.zero_le _, rfl, Below.refl _ _⟩
  case round =>
    obtain ⟨k, hk, rfl, hB⟩ := hrel
    by_cases hlt : k < n
    · have g1 := h1.below hB
      have g2 := h2.below hB
      rcases g1.hlies with h0 | ⟨b, off, rfl, hb, hc⟩
      · omega
      rcases g2.hlies with h0 | ⟨b2, off2, rfl, hb2, hc2⟩
      · omega
      obtain ⟨c0, c1, c2, c3, c4, c5, c6, c7, c8, c9, c10, c11, c12⟩ := hc k hlt
      obtain ⟨d0, d1, d2, d3, d4, d5, d6, d7, d8, d9, d10, d11, d12⟩ := hc2 k hlt
      clear hc hc2 g1 g2
      have i0 : (0 : Int) ≤ (k : Int) := by omega
      have i1 : (k : Int) < (n : Int) := by omega
      go_wp2_with fail
      go_region_held3 (fun w' => Kp wr w')
        (first | exact kp_zero _ | exact kp_drew (by assumption) | exact kp_step (by assumption) (by assumption))
        (first
          | (go_at_call 44; refine (eqUpdate_self _ _ _ _ _ _ _ _ _ _ _ _ _ _).mono ?_; rintro e w' ⟨rfl, hb⟩))
      rename_i hK
      obtain ⟨hK1, hK2⟩ := hK
      have hB' := hB.trans (hK1.mono hB.size)
      go_wp2_with fail
      exact ⟨⟨k + 1, by omega, by go_num, hB'⟩, by simp [intOf]; omega⟩
    · go_wp2_with fail
      go_ret
      exact ⟨rfl, hB⟩

end Go.Proofs.YtbhidjagmonnaaaGreatDoor
