/-
  The contracts of the model's l4Forest and ForestOf.
-/
import Derived.Test.YtdpeopmbboogaaaZForest33
namespace M1
/-- The forest of a trace. -/
def fors (us : List Upd) (tr : Int) : List (Upd × Int) := forest (sps us tr)
theorem sps_sorted (us : List Upd) (tr : Int) : (sps us tr).Pairwise idlt := by
  unfold sps
  split
  · exact spTo_sorted us tr us.length
  · exact List.Pairwise.nil
theorem fors_len (us : List Upd) (tr : Int) : (fors us tr).length ≤ us.length := by
  unfold fors forest
  exact Nat.le_trans (nd_len (nd_for (sps_sorted us tr) _ (Nat.le_refl _)) fun q hq => for_mem (sps_sorted us tr) hq) (sps_len us tr)
end M1
namespace Go.Proofs.Ytdpeopmbboogaaa
open Go.ChangeShapes Go.WideShapes Go.ChangeAt Go.RowKit
set_option linter.unusedSimpArgs false
set_option linter.unusedVariables false

/-- A list of nodes in a row of its own (or none). -/
def MN (w : World) (av : Option Addr) (n cap lo hi : Nat) (f : Nat → Value) : Prop :=
  n ≤ cap ∧ cap ≤ maxLen ∧ ((n = 0 ∧ av = none) ∨ ∃ g, av = some ⟨g, 0, none⟩ ∧ lo ≤ g ∧ g < hi ∧ RowAt w g (n * 6) f)
theorem MN.below {w w' : World} {av : Option Addr} {n cap lo hi : Nat} {f : Nat → Value} (h : MN w av n cap lo hi f) (hb : Below w.heap.size w w') : MN w' av n cap lo hi f :=
  ⟨h.1, h.2.1, h.2.2.imp id fun ⟨g, e, h1, h2, r⟩ => ⟨g, e, h1, h2, r.below hb⟩⟩
theorem MN.of_owns {w : World} {base n : Nat} {av : Option Addr} {cap : Nat} {O : List (M1.Upd × Int)} (hl : O.length = n) (h : w.ownsRow base 36 6 (.slice av n cap) n (nL O)) : MN w av n cap base w.heap.size (ncell O) := by
  have h0 := h
  obtain ⟨h1, h2⟩ := h
  rcases h2 with ⟨e1, h3⟩ | ⟨g, cap', cur, e1, hg, hh, hn, hm, hs, ht⟩
  · injection e1 with a1 a2 a3; subst a1; subst a3
    exact ⟨by omega, by unfold maxLen; omega, Or.inl ⟨h3, rfl⟩⟩
  · injection e1 with a1 a2 a3; subst a1; subst a3
    have hr := ownN_row hl h0
    exact ⟨hn, hm, Or.inr ⟨g, rfl, hg, hr.lt, hr⟩⟩
theorem MN.wide {w : World} {av : Option Addr} {n cap lo hi lo2 hi2 : Nat} {f : Nat → Value} (h : MN w av n cap lo hi f) (h1 : lo2 ≤ lo) (h2 : hi ≤ hi2) : MN w av n cap lo2 hi2 f :=
  ⟨h.1, h.2.1, h.2.2.imp id fun ⟨g, e, h3, h4, r⟩ => ⟨g, e, by omega, by omega, r⟩⟩
/-- A list of nodes in memory of one's own. -/
def NdW (w w' : World) (e : Ending) (r : List (M1.Upd × Int)) : Prop := ∃ (a : Option Addr) (c : Nat), e = .returned (.slice a r.length c) ∧ MN w' a r.length c w.heap.size w'.heap.size (ncell r)

set_option maxHeartbeats 8000000 in
set_option maxRecDepth 100000 in
theorem l4Forest_any (av : Option Addr) (m c : Nat) (S : List M1.Upd) (w : World) (h : SpIn w av m c w.heap.size S) (hS : S.Pairwise M1.idlt) (hm60 : m ≤ 1000) :
    Calls Try.prog 34 #[.slice av m c] w fun e w' => NdW w w' e (M1.forest S) ∧ Below w.heap.size w w' := by
  have hl : Hid (S.length = m) := h.len
  have hm1 := h.cap
  have hm2 := h.most
  unfold maxLen at hm2
  have own0 : (w.alloc (.cells #[] 36)).ownsRow w.heap.size 36 6 (.slice (some ⟨w.heap.size, 0, none⟩) 0 0) 0 (nL []) := by
    refine ⟨rfl, Or.inr ⟨w.heap.size, 0, #[], rfl, Nat.le_refl _, ?_, Nat.le_refl _, by unfold maxLen; omega, rfl, rfl⟩⟩
    show (w.heap.push (.cells #[] 36))[w.heap.size]? = _
    simp
  have hB0 : Below w.heap.size w (w.alloc (.cells #[] 36)) := (Below.refl _ _).alloc (Nat.le_refl _) _
  go_enter Try.func34, Try.ntmps34
  go_wp2_with fail
  go_loopw [3, 4] (fun v iv wr => ∃ (i q : Nat) (ov : Option Addr) (oc : Nat), i ≤ m ∧ iv = .int .i64 i ∧ v = .slice ov q oc ∧ Hid ((M1.forTo S i).length = q) ∧ wr.ownsRow w.heap.size 36 6 (.slice ov q oc) q (nL (M1.forTo S i)) ∧ Below w.heap.size w wr) (fun _ iv _ => m - (intOf iv).toNat)
  case atStart => exact ⟨0, 0, _, _, Nat.zero_le _, rfl, rfl, (rfl : (M1.forTo S 0).length = 0), own0, hB0⟩
  case round =>
    clear own0 hB0
    obtain ⟨i, q, ov, oc, hi, rfl, rfl, hq, hown, hB⟩ := hrel
    have hs := hB.size
    by_cases hlt : i < m
    · have h2 := h.below hB
      have hiS : i < S.length := by rw [hl.out]; exact hlt
      have HST : Hid (M1.forTo S (i + 1) = M1.forTo S i ++ (if M1.rootB S (M1.up S i) = true then M1.growF S S.length (M1.up S i) 0 else [])) := M1.forTo_step hiS
      obtain ⟨rb, hrb⟩ : ∃ b, Hid (M1.rootB S (M1.up S i) = b) := ⟨_, rfl⟩
      go_wp2_with fail
      have c1 := l4Root_any _ _ _ _ i S _ h2 hS hlt hm60
      rw [hrb.out] at c1
      refine c1.mono ?_
      clear c1
      rintro e w1 ⟨rfl, hw1⟩
      subst hw1
      cases rb with
      | false =>
        have HE : Hid (M1.forTo S (i + 1) = M1.forTo S i) := (by rw [HST.out, if_neg (by rw [hrb.out]; simp), List.append_nil] : _ = _)
        go_wp2_with fail
        exact ⟨⟨i + 1, q, ov, oc, by omega, by go_num, rfl, (by rw [HE.out]; exact hq.out : (M1.forTo S (i + 1)).length = q), by rw [HE.out]; exact hown, hB⟩, by simp [intOf]; omega⟩
      | true =>
        have HE : Hid (M1.forTo S (i + 1) = M1.forTo S i ++ M1.growF S m (M1.up S i) 0) := (by rw [HST.out, if_pos hrb.out, hl.out] : _ = _)
        have hpre := M1.pre_root hS hiS hrb.out
        have hU : UnP S i m 0 (M1.forTo S i) := ⟨M1.nd_for hS i (by omega), fun q hq => M1.for_mem hS hq, Or.inr ⟨_, 0, hpre, by rw [hl.out]; rfl, rfl⟩⟩
        have c2 := l4Under_any av m c w.heap.size S hS hm60 m i 0 (M1.forTo S i) ov oc w1 h2 (by omega) hlt hU (by rw [hq.out]; exact hown)
        rw [hq.out] at c2
        have HOUT : Hid (∀ O', unO S i m 0 (M1.forTo S i) O' → O' = M1.forTo S (i + 1)) := fun O' hO' => by
          rcases hO' with ⟨⟨q, hq, e⟩, _⟩ | ⟨_, e⟩
          · rcases hpre.out q hq with h1 | h1
            · exact absurd e h1
            · exact absurd hS h1
          · rw [e, HE.out]
        clear hpre hU
        go_wp2_with fail
        refine c2.mono ?_
        clear c2
        rintro e w3 ⟨⟨O', ⟨ov3, oc3, rfl, own3⟩, hO'⟩, hb3⟩
        have HO3 := HOUT.out O' hO'
        subst HO3
        obtain ⟨q3, hq3⟩ : ∃ q, Hid ((M1.forTo S (i + 1)).length = q) := ⟨_, rfl⟩
        rw [hq3.out] at own3 ⊢
        have hB3 := hB.trans hb3
        clear hO' hown
        go_wp2_with fail
        exact ⟨⟨i + 1, q3, ov3, oc3, by omega, by go_num, rfl, hq3, own3, hB3⟩, by simp [intOf]; omega⟩
    · have him : i = m := by omega
      have HF : Hid (M1.forest S = M1.forTo S i) := (by unfold M1.forest; rw [hl.out, him] : _ = _)
      have mn := MN.of_owns hq.out hown
      clear him
      go_wp2_with fail
      go_ret
      refine ⟨⟨ov, oc, ?_, ?_⟩, hB⟩
      · rw [HF.out, hq.out]; rfl
      · rw [HF.out, hq.out]; exact mn

set_option maxHeartbeats 4000000 in
set_option maxRecDepth 100000 in
theorem forestOf_spec (av : Option Addr) (n cn : Nat) (us : List M1.Upd) (tr : Int) (w : World) (h1 : IsUpds w av n cn us) :
    Calls Try.prog 11 #[.slice av n cn, .int .i64 tr] w fun e w' => NdW w w' e (M1.fors us tr) ∧ Below w.heap.size w w' := by
  have hl1 : Hid (us.length = n) := h1.hlen
  obtain ⟨ok, hok⟩ : ∃ b, Hid (M1.setOk us = b) := ⟨_, rfl⟩
  go_enter Try.func11, Try.ntmps11
  go_wp2_with fail
  refine (setOk_spec _ _ _ _ _ h1).mono ?_
  rw [hok.out]
  rintro e w1 ⟨rfl, hb1⟩
  cases ok with
  | false =>
    have HT : Hid (M1.fors us tr = []) := (by unfold M1.fors M1.sps; rw [hok.out]; rfl : M1.fors us tr = [])
    have own0 : (w1.alloc (.cells #[] 36)).ownsRow w1.heap.size 36 6 (.slice (some ⟨w1.heap.size, 0, none⟩) 0 0) 0 (nL []) := by
      refine ⟨rfl, Or.inr ⟨w1.heap.size, 0, #[], rfl, Nat.le_refl _, ?_, Nat.le_refl _, by unfold maxLen; omega, rfl, rfl⟩⟩
      show (w1.heap.push (.cells #[] 36))[w1.heap.size]? = _
      simp
    have mn := MN.of_owns (O := []) rfl own0
    have hs1 := hb1.size
    clear own0
    go_wp2_with fail
    go_ret
    refine ⟨⟨some ⟨w1.heap.size, 0, none⟩, 0, ?_, ?_⟩, hb1.alloc hb1.size _⟩
    · rw [HT.out]; rfl
    · rw [HT.out]; exact mn.wide hs1 (Nat.le_refl _)
  | true =>
    have HT : Hid (M1.sps us tr = M1.spTo us tr n) := (by unfold M1.sps; rw [if_pos hok.out, hl1.out] : M1.sps us tr = M1.spTo us tr n)
    have hn60 := M1.setOk_len hok.out
    rw [hl1.out] at hn60
    have hs1 := hb1.size
    obtain ⟨S, hS⟩ : ∃ S, Hid (M1.spTo us tr n = S) := ⟨_, rfl⟩
    obtain ⟨m, hm⟩ : ∃ m, Hid (S.length = m) := ⟨_, rfl⟩
    have hmn : m ≤ n := by have := M1.spTo_len us tr n; rw [hS.out, hm.out] at this; exact this
    have HSO : Hid (S.Pairwise M1.idlt) := (by rw [← hS.out]; exact M1.spTo_sorted us tr n : S.Pairwise M1.idlt)
    have HF : Hid (M1.fors us tr = M1.forest S) := (by unfold M1.fors; rw [HT.out, hS.out] : _ = _)
    go_wp2_with fail
    have c2 := l4Spans_any _ _ _ _ tr _ (h1.below hb1) (by omega)
    rw [hS.out] at c2
    refine c2.mono ?_
    clear c2
    rintro e w2 ⟨⟨a, c, rfl, mg⟩, hb2⟩
    rw [hm.out] at mg ⊢
    have hs2 := hb2.size
    go_wp2_with fail
    refine (l4Forest_any _ _ _ S _ (SpIn.of_mg hm.out mg (Nat.le_refl _)) HSO.out (by omega)).mono ?_
    rintro e w3 ⟨⟨a3, c3, rfl, mn⟩, hb3⟩
    go_wp2_with fail
    go_ret
    exact ⟨⟨a3, c3, by rw [HF.out]; rfl, by rw [HF.out]; exact mn.wide (by omega) (Nat.le_refl _)⟩, (hb1.trans (hb2.mono hb1.size)).trans (hb3.mono (by omega))⟩
end Go.Proofs.Ytdpeopmbboogaaa
