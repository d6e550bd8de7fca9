/-
  Texts of one proof, joined: Fo4, Math25, Ti1.
-/
import Derived.Test.YtdpeopmbboogaaaZLongest32
import Derived.Test.YtdpeopmbboogaaaZLongest29
import Derived.Test.YtdpeopmbboogaaaZLongest19
import Derived.Test.YtdpeopmbboogaaaZLongest04
namespace M1
/-- The forest of a trace. -/
def fors (us : List Upd) (tr : Int) : List (Upd × Int) := forest (sps us tr)
theorem sps_sorted (us : List Upd) (tr : Int) : (sps us tr).Pairwise idlt := by
  unfold sps
  split
  · exact spTo_sorted us tr us.length
  · exact List.Pairwise.nil
theorem fors_len (us : List Upd) (tr : Int) : (fors us tr).length ≤ us.length := by
  unfold fors forest
  exact Nat.le_trans (nd_len (nd_for (sps_sorted us tr) _ (Nat.le_refl _)) fun q hq => for_mem (sps_sorted us tr) hq) (sps_len us tr)
end M1
namespace Go.Proofs.Ytdpeopmbboogaaa
open Go.ChangeShapes Go.WideShapes Go.ChangeAt Go.RowKit
set_option linter.unusedSimpArgs false
set_option linter.unusedVariables false

/-- A list of nodes in a row of its own (or none). -/
def MN (w : World) (av : Option Addr) (n cap lo hi : Nat) (f : Nat → Value) : Prop :=
  n ≤ cap ∧ cap ≤ maxLen ∧ ((n = 0 ∧ av = none) ∨ ∃ g, av = some ⟨g, 0, none⟩ ∧ lo ≤ g ∧ g < hi ∧ RowAt w g (n * 6) f)
theorem MN.below {w w' : World} {av : Option Addr} {n cap lo hi : Nat} {f : Nat → Value} (h : MN w av n cap lo hi f) (hb : Below w.heap.size w w') : MN w' av n cap lo hi f :=
  ⟨h.1, h.2.1, h.2.2.imp id fun ⟨g, e, h1, h2, r⟩ => ⟨g, e, h1, h2, r.below hb⟩⟩
theorem MN.of_owns {w : World} {base n : Nat} {av : Option Addr} {cap : Nat} {O : List (M1.Upd × Int)} (hl : O.length = n) (h : w.ownsRow base 36 6 (.slice av n cap) n (nL O)) : MN w av n cap base w.heap.size (ncell O) := by
  have h0 := h
  obtain ⟨h1, h2⟩ := h
  rcases h2 with ⟨e1, h3⟩ | ⟨g, cap', cur, e1, hg, hh, hn, hm, hs, ht⟩
  · injection e1 with a1 a2 a3; subst a1; subst a3
    exact ⟨by omega, by unfold maxLen; omega, Or.inl ⟨h3, rfl⟩⟩
  · injection e1 with a1 a2 a3; subst a1; subst a3
    have hr := ownN_row hl h0
    exact ⟨hn, hm, Or.inr ⟨g, rfl, hg, hr.lt, hr⟩⟩
theorem MN.wide {w : World} {av : Option Addr} {n cap lo hi lo2 hi2 : Nat} {f : Nat → Value} (h : MN w av n cap lo hi f) (h1 : lo2 ≤ lo) (h2 : hi ≤ hi2) : MN w av n cap lo2 hi2 f :=
  ⟨h.1, h.2.1, h.2.2.imp id fun ⟨g, e, h3, h4, r⟩ => ⟨g, e, by omega, by omega, r⟩⟩
/-- A list of nodes in memory of one's own. -/
def NdW (w w' : World) (e : Ending) (r : List (M1.Upd × Int)) : Prop := ∃ (a : Option Addr) (c : Nat), e = .returned (.slice a r.length c) ∧ MN w' a r.length c w.heap.size w'.heap.size (ncell r)

set_option maxHeartbeats 8000000 in
set_option maxRecDepth 100000 in
theorem l4Forest_any (av : Option Addr) (m c : Nat) (S : List M1.Upd) (w : World) (h : SpIn w av m c w.heap.size S) (hS : S.Pairwise M1.idlt) (hm60 : m ≤ 1000) :
    Calls Try.prog 34 #[.slice av m c] w fun e w' => NdW w w' e (M1.forest S) ∧ Below w.heap.size w w' := by
  have hl : Hid (S.length = m) := h.len
  have hm1 := h.cap
  have hm2 := h.most
  unfold maxLen at hm2
  have own0 : (w.alloc (.cells #[] 36)).ownsRow w.heap.size 36 6 (.slice (some ⟨w.heap.size, 0, none⟩) 0 0) 0 (nL []) := by
    refine ⟨rfl, Or.inr ⟨w.heap.size, 0, #[], rfl, Nat.le_refl _, ?_, Nat.le_refl _, by unfold maxLen; omega, rfl, rfl⟩⟩
    show (w.heap.push (.cells #[] 36))[w.heap.size]? = _
    simp
  have hB0 : Below w.heap.size w (w.alloc (.cells #[] 36)) := (Below.refl _ _).alloc (Nat.le_refl _) _
  go_enter Try.func34, Try.ntmps34
  go_wp2_with fail
  go_loopw [3, 4] (fun v iv wr => ∃ (i q : Nat) (ov : Option Addr) (oc : Nat), i ≤ m ∧ iv = .int .i64 i ∧ v = .slice ov q oc ∧ Hid ((M1.forTo S i).length = q) ∧ wr.ownsRow w.heap.size 36 6 (.slice ov q oc) q (nL (M1.forTo S i)) ∧ Below w.heap.size w wr) (fun _ iv _ => m - (intOf iv).toNat)
  case atStart => exact ⟨0, 0, _, _, Nat.zero_le _, rfl, rfl, (rfl : (M1.forTo S 0).length = 0), own0, hB0⟩
  case round =>
    clear own0 hB0
    obtain ⟨i, q, ov, oc, hi, rfl, rfl, hq, hown, hB⟩ := hrel
    have hs := hB.size
    by_cases hlt : i < m
    · have h2 := h.below hB
      have hiS : i < S.length := by rw [hl.out]; exact hlt
      have HST : Hid (M1.forTo S (i + 1) = M1.forTo S i ++ (if M1.rootB S (M1.up S i) = true then M1.growF S S.length (M1.up S i) 0 else [])) := M1.forTo_step hiS
      obtain ⟨rb, hrb⟩ : ∃ b, Hid (M1.rootB S (M1.up S i) = b) := ⟨_, rfl⟩
      go_wp2_with fail
      have c1 := l4Root_any _ _ _ _ i S _ h2 hS hlt hm60
      rw [hrb.out] at c1
      refine c1.mono ?_
      clear c1
      rintro e w1 ⟨rfl, hw1⟩
      subst hw1
      cases rb with
      | false =>
        have HE : Hid (M1.forTo S (i + 1) = M1.forTo S i) := (by rw [HST.out, if_neg (by rw [hrb.out]; simp), List.append_nil] : _ = _)
        go_wp2_with fail
        exact ⟨⟨i + 1, q, ov, oc, by omega, by go_num, rfl, (by rw [HE.out]; exact hq.out : (M1.forTo S (i + 1)).length = q), by rw [HE.out]; exact hown, hB⟩, by simp [intOf]; omega⟩
      | true =>
        have HE : Hid (M1.forTo S (i + 1) = M1.forTo S i ++ M1.growF S m (M1.up S i) 0) := (by rw [HST.out, if_pos hrb.out, hl.out] : _ = _)
        have hpre := M1.pre_root hS hiS hrb.out
        have hU : UnP S i m 0 (M1.forTo S i) := ⟨M1.nd_for hS i (by omega), fun q hq => M1.for_mem hS hq, Or.inr ⟨_, 0, hpre, by rw [hl.out]; rfl, rfl⟩⟩
        have c2 := l4Under_any av m c w.heap.size S hS hm60 m i 0 (M1.forTo S i) ov oc w1 h2 (by omega) hlt hU (by rw [hq.out]; exact hown)
        rw [hq.out] at c2
        have HOUT : Hid (∀ O', unO S i m 0 (M1.forTo S i) O' → O' = M1.forTo S (i + 1)) := fun O' hO' => by
          rcases hO' with ⟨⟨q, hq, e⟩, _⟩ | ⟨_, e⟩
          · rcases hpre.out q hq with h1 | h1
            · exact absurd e h1
            · exact absurd hS h1
          · rw [e, HE.out]
        clear hpre hU
        go_wp2_with fail
        refine c2.mono ?_
        clear c2
        rintro e w3 ⟨⟨O', ⟨ov3, oc3, rfl, own3⟩, hO'⟩, hb3⟩
        have HO3 := HOUT.out O' hO'
        subst HO3
        obtain ⟨q3, hq3⟩ : ∃ q, Hid ((M1.forTo S (i + 1)).length = q) := ⟨_, rfl⟩
        rw [hq3.out] at own3 ⊢
        have hB3 := hB.trans hb3
        clear hO' hown
        go_wp2_with fail
        exact ⟨⟨i + 1, q3, ov3, oc3, by omega, by go_num, rfl, hq3, own3, hB3⟩, by simp [intOf]; omega⟩
    · have him : i = m := by omega
      have HF : Hid (M1.forest S = M1.forTo S i) := (by unfold M1.forest; rw [hl.out, him] : _ = _)
      have mn := MN.of_owns hq.out hown
      clear him
      go_wp2_with fail
      go_ret
      refine ⟨⟨ov, oc, ?_, ?_⟩, hB⟩
      · rw [HF.out, hq.out]; rfl
      · rw [HF.out, hq.out]; exact mn

set_option maxHeartbeats 4000000 in
set_option maxRecDepth 100000 in
theorem forestOf_spec (av : Option Addr) (n cn : Nat) (us : List M1.Upd) (tr : Int) (w : World) (h1 : IsUpds w av n cn us) :
    Calls Try.prog 11 #[.slice av n cn, .int .i64 tr] w fun e w' => NdW w w' e (M1.fors us tr) ∧ Below w.heap.size w w' := by
  have hl1 : Hid (us.length = n) := h1.hlen
  obtain ⟨ok, hok⟩ : ∃ b, Hid (M1.setOk us = b) := ⟨_, rfl⟩
  go_enter Try.func11, Try.ntmps11
  go_wp2_with fail
  refine (setOk_spec _ _ _ _ _ h1).mono ?_
  rw [hok.out]
  rintro e w1 ⟨rfl, hb1⟩
  cases ok with
  | false =>
    have HT : Hid (M1.fors us tr = []) := (by unfold M1.fors M1.sps; rw [hok.out]; rfl : M1.fors us tr = [])
    have own0 : (w1.alloc (.cells #[] 36)).ownsRow w1.heap.size 36 6 (.slice (some ⟨w1.heap.size, 0, none⟩) 0 0) 0 (nL []) := by
      refine ⟨rfl, Or.inr ⟨w1.heap.size, 0, #[], rfl, Nat.le_refl _, ?_, Nat.le_refl _, by unfold maxLen; omega, rfl, rfl⟩⟩
      show (w1.heap.push (.cells #[] 36))[w1.heap.size]? = _
      simp
    have mn := MN.of_owns (O := []) rfl own0
    have hs1 := hb1.size
    clear own0
    go_wp2_with fail
    go_ret
    refine ⟨⟨some ⟨w1.heap.size, 0, none⟩, 0, ?_, ?_⟩, hb1.alloc hb1.size _⟩
    · rw [HT.out]; rfl
    · rw [HT.out]; exact mn.wide hs1 (Nat.le_refl _)
  | true =>
    have HT : Hid (M1.sps us tr = M1.spTo us tr n) := (by unfold M1.sps; rw [if_pos hok.out, hl1.out] : M1.sps us tr = M1.spTo us tr n)
    have hn60 := M1.setOk_len hok.out
    rw [hl1.out] at hn60
    have hs1 := hb1.size
    obtain ⟨S, hS⟩ : ∃ S, Hid (M1.spTo us tr n = S) := ⟨_, rfl⟩
    obtain ⟨m, hm⟩ : ∃ m, Hid (S.length = m) := ⟨_, rfl⟩
    have hmn : m ≤ n := by have := M1.spTo_len us tr n; rw [hS.out, hm.out] at this; exact this
    have HSO : Hid (S.Pairwise M1.idlt) := (by rw [← hS.out]; exact M1.spTo_sorted us tr n : S.Pairwise M1.idlt)
    have HF : Hid (M1.fors us tr = M1.forest S) := (by unfold M1.fors; rw [HT.out, hS.out] : _ = _)
    go_wp2_with fail
    have c2 := l4Spans_any _ _ _ _ tr _ (h1.below hb1) (by omega)
    rw [hS.out] at c2
    refine c2.mono ?_
    clear c2
    rintro e w2 ⟨⟨a, c, rfl, mg⟩, hb2⟩
    rw [hm.out] at mg ⊢
    have hs2 := hb2.size
    go_wp2_with fail
    refine (l4Forest_any _ _ _ S _ (SpIn.of_mg hm.out mg (Nat.le_refl _)) HSO.out (by omega)).mono ?_
    rintro e w3 ⟨⟨a3, c3, rfl, mn⟩, hb3⟩
    go_wp2_with fail
    go_ret
    exact ⟨⟨a3, c3, by rw [HF.out]; rfl, by rw [HF.out]; exact mn.wide (by omega) (Nat.le_refl _)⟩, (hb1.trans (hb2.mono hb1.size)).trans (hb3.mono (by omega))⟩
end Go.Proofs.Ytdpeopmbboogaaa

namespace M1
/-- How late the first k nodes end, and the path to the first that ends so. -/
def lng (O : List (Upd × Int)) : Nat → Int × List Int
  | 0 => (-1, [])
  | k + 1 => match O[k]? with
    | none => lng O k
    | some q => if (lng O k).1 < q.1.en then (q.1.en, pth O (k + 1)) else lng O k
def lngs (us : List Upd) (tr : Int) : List Int := (lng (fors us tr) (fors us tr).length).2
theorem pth_le (O : List (Upd × Int)) : ∀ k, (pth O k).length ≤ k
  | 0 => by simp [pth]
  | k + 1 => by
    have := pth_le O k
    unfold pth
    split
    · omega
    · simp; omega
theorem lng_le (O : List (Upd × Int)) : ∀ k, (lng O k).2.length ≤ k
  | 0 => by simp [lng]
  | k + 1 => by
    have h1 := lng_le O k
    have h2 := pth_le O (k + 1)
    unfold lng
    split
    · omega
    · split
      · exact h2
      · omega
theorem lngs_len (us : List Upd) (tr : Int) : (lngs us tr).length ≤ us.length := Nat.le_trans (lng_le _ _) (fors_len us tr)
theorem lng_step {O : List (Upd × Int)} {k : Nat} {q : Upd × Int} (h : O[k]? = some q) : lng O (k + 1) = if (lng O k).1 < q.1.en then (q.1.en, pth O (k + 1)) else lng O k := by
  show (match O[k]? with | none => _ | some q => _) = _
  rw [h]
theorem pth_step {O : List (Upd × Int)} {k : Nat} {q : Upd × Int} (h : O[k]? = some q) : pth O (k + 1) = (pth O k).take q.2.toNat ++ [q.1.id] := by
  show (match O[k]? with | none => _ | some q => _) = _
  rw [h]
theorem bck_step {O : List (Upd × Int)} {k : Nat} {q : Upd × Int} {D : Int} (h : O[k]? = some q) : bck O (k + 1) D = if q.2 = D then bck O k (D - 1) ++ [q.1.id] else bck O k D := by
  show (match O[k]? with | none => _ | some q => _) = _
  rw [h]
/-- The path so far is as long as the next one is deep, or longer. -/
theorem pth_room {O : List (Upd × Int)} (h : Ord O) {k : Nat} {q : Upd × Int} (hq : O[k]? = some q) : q.2.toNat ≤ (pth O k).length := by
  cases k with
  | zero => rw [h.first hq]; simp
  | succ k =>
    have hk : k < O.length := by
      have := (List.getElem?_eq_some_iff.1 hq).1
      omega
    have hp : O[k]? = some O[k] := List.getElem?_eq_getElem hk
    have h1 := h.next hq hp
    have h2 := pth_len h hp
    have h3 := (h k _ hp).1
    omega
/-- The model's best place, held against it. -/
def Bst (O : List (Upd × Int)) (k : Nat) (b : Int) : Prop := (k = 0 ∧ b = -1) ∨ ∃ (i : Nat) (q : Upd × Int), i < k ∧ b = i ∧ O[i]? = some q ∧ (lng O k).1 = q.1.en ∧ (lng O k).2 = pth O (i + 1)
theorem Bst.step {O : List (Upd × Int)} {k : Nat} {b : Int} {q : Upd × Int} (h : Bst O k b) (hq : O[k]? = some q) (h0 : 0 ≤ q.1.en) (hb : b < 0 ∨ ∃ (i : Nat) (p : Upd × Int), b = i ∧ O[i]? = some p ∧ p.1.en < q.1.en) : Bst O (k + 1) k := by
  refine Or.inr ⟨k, q, by omega, rfl, hq, ?_⟩
  rw [lng_step hq]
  have : (lng O k).1 < q.1.en := by
    rcases h with ⟨rfl, _⟩ | ⟨i, p, hi, e, hp, h1, _⟩
    · show (-1 : Int) < _; omega
    · rcases hb with hb | ⟨i2, p2, e2, hp2, hl⟩
      · omega
      · have : i2 = i := by omega
        subst this
        rw [hp] at hp2
        injection hp2 with e3
        rw [h1, e3]; exact hl
  rw [if_pos this]
  exact ⟨rfl, rfl⟩
theorem Bst.stay {O : List (Upd × Int)} {k i : Nat} {q p : Upd × Int} (h : Bst O k i) (hq : O[k]? = some q) (hp : O[i]? = some p) (hb : ¬ p.1.en < q.1.en) : Bst O (k + 1) i := by
  rcases h with ⟨_, e⟩ | ⟨i2, p2, hi, e, hp2, h1, h2⟩
  · omega
  · have : i2 = i := by omega
    subst this
    rw [hp] at hp2
    injection hp2 with e3
    refine Or.inr ⟨i2, p, by omega, rfl, hp, ?_⟩
    rw [lng_step hq, if_neg (by rw [h1, ← e3]; exact hb)]
    exact ⟨by rw [h1, e3], h2⟩
/-- What the model gathers from the best place is the path. -/
theorem bck_best {O : List (Upd × Int)} (h : Ord O) {i : Nat} {q : Upd × Int} (hq : O[i]? = some q) : bck O (i + 1) q.2 = pth O (i + 1) := by
  have h0 := (h i q hq).1
  have h1 := bck_pth h (D := q.2.toNat) hq (Nat.le_refl _)
  rw [show ((q.2.toNat : Nat) : Int) = q.2 by omega] at h1
  rw [h1, List.take_of_length_le]
  rw [pth_len h hq]
  exact Nat.le_refl _
theorem okU_en {u : Upd} (h : okU u = true) : 0 ≤ u.en := by
  unfold okU updB kindB at h
  simp only [Bool.and_eq_true] at h
  have h2 := h.2
  split at h2
  · unfold spanB inB at h2
    simp only [Bool.and_eq_true, decide_eq_true_eq] at h2
    omega
  · split at h2
    · unfold zeroB at h2
      simp only [Bool.and_eq_true, decide_eq_true_eq] at h2
      omega
    · split at h2
      · unfold zeroB at h2
        simp only [Bool.and_eq_true, decide_eq_true_eq] at h2
        omega
      · cases h2
theorem sps_en {us : List Upd} {tr : Int} {u : Upd} (h : u ∈ sps us tr) : 0 ≤ u.en := by
  unfold sps at h
  split at h
  · rename_i hs
    obtain ⟨j, hj, rfl⟩ := spTo_mem h
    exact okU_en (okAt_ok (setOk_all hs j hj))
  · cases h
theorem fors_en {us : List Upd} {tr : Int} {k : Nat} {q : Upd × Int} (h : (fors us tr)[k]? = some q) : 0 ≤ q.1.en :=
  sps_en (for_mem (sps_sorted us tr) (List.mem_of_getElem? h))
end M1

namespace Go.Proofs.Ytdpeopmbboogaaa
open Go.ChangeShapes Go.WideShapes Go.ChangeAt Go.RowKit
set_option linter.unusedSimpArgs false
set_option linter.unusedVariables false

def icell (zs : List Int) (o : Nat) : Value := .int .i64 (zs.getD o 0)
def MI (w : World) (av : Option Addr) (n cap lo hi : Nat) (f : Nat → Value) : Prop :=
  n ≤ cap ∧ cap ≤ maxLen ∧ ((n = 0 ∧ av = none) ∨ ∃ g, av = some ⟨g, 0, none⟩ ∧ lo ≤ g ∧ g < hi ∧ RowAt w g n f)
theorem MI.below {w w' : World} {av : Option Addr} {n cap lo hi : Nat} {f : Nat → Value} (h : MI w av n cap lo hi f) (hb : Below w.heap.size w w') : MI w' av n cap lo hi f :=
  ⟨h.1, h.2.1, h.2.2.imp id fun ⟨g, e, h1, h2, r⟩ => ⟨g, e, h1, h2, r.below hb⟩⟩
theorem MI.off {w w' : World} {av : Option Addr} {n cap lo hi g : Nat} {f : Nat → Value} (h : MI w av n cap lo hi f) (hg : Gr g w w') (hb : g < lo ∨ hi ≤ g) : MI w' av n cap lo hi f :=
  ⟨h.1, h.2.1, h.2.2.imp id fun ⟨k, e, h1, h2, r⟩ => ⟨k, e, h1, h2, r.gr hg (by omega)⟩⟩
theorem MI.mk {w w' : World} {av bv : Option Addr} {n cap lo hi m cm lo2 hi2 : Nat} {f f2 : Nat → Value} (h : MI w av n cap lo hi f) (h2 : MI w bv m cm lo2 hi2 f2) (hm : Mk bv w w') (hd : hi ≤ lo2 ∨ hi2 ≤ lo) : MI w' av n cap lo hi f := by
  refine ⟨h.1, h.2.1, ?_⟩
  rcases h.2.2 with h0 | ⟨g, e, h3, h4, r⟩
  · exact Or.inl h0
  · refine Or.inr ⟨g, e, h3, h4, ?_⟩
    rcases h2.2.2 with ⟨_, h0⟩ | ⟨g2, e2, h5, h6, _⟩
    · exact r.below (hm.1 h0)
    · exact r.gr (hm.2 g2 e2) (by omega)
theorem MI.mkBelow {w w' : World} {bv : Option Addr} {m cm lo2 hi2 B : Nat} {f2 : Nat → Value} (h2 : MI w bv m cm lo2 hi2 f2) (hm : Mk bv w w') (hB : B ≤ w.heap.size) (hlo : B ≤ lo2) : Below B w w' := by
  rcases h2.2.2 with ⟨_, h0⟩ | ⟨g2, e2, h5, h6, _⟩
  · exact (hm.1 h0).mono hB
  · exact gr_to (hm.2 g2 e2) hB (by omega)
theorem MI.wide {w : World} {av : Option Addr} {n cap lo hi lo2 hi2 : Nat} {f : Nat → Value} (h : MI w av n cap lo hi f) (hl : lo2 ≤ lo) (hh : hi ≤ hi2) : MI w av n cap lo2 hi2 f :=
  ⟨h.1, h.2.1, h.2.2.imp id fun ⟨g, e, h1, h2, r⟩ => ⟨g, e, by omega, by omega, r⟩⟩

set_option maxHeartbeats 2000000 in
theorem eqI_same (av bv : Option Addr) (n c d lo hi lo2 hi2 : Nat) (zs : List Int) (w : World) (h1 : MI w av n c lo hi (icell zs)) (h2 : MI w bv n d lo2 hi2 (icell zs)) :
    Calls Try.prog 25 #[.slice av n c, .slice bv n d] w fun e w' => e = .returned (.bool true) ∧ Below w.heap.size w w' := by
  have hm1 := h1.1
  have hm2 := h1.2.1
  have hm3 := h2.1
  have hm4 := h2.2.1
  unfold maxLen at hm2 hm4
  have hnb : ((n : Int) != (n : Int)) = false := by simp
  go_enter Try.func25, Try.ntmps25
  go_wp2_with fail
  go_loopw [5] (fun i wr => ∃ p : Nat, p ≤ n ∧ i = .int .i64 p ∧ Below w.heap.size w wr) (fun i _ => n - (intOf i).toNat)
  case atStart => exact ⟨0, Nat.zero_le _, rfl, Below.refl _ _⟩
  case round =>
    obtain ⟨p, hp, rfl, hB⟩ := hrel
    by_cases hlt : p < n
    · have g1 := h1.below hB
      have g2 := h2.below hB
      rcases g1.2.2 with ⟨h0, _⟩ | ⟨g, rfl, _, _, r1⟩
      · omega
      rcases g2.2.2 with ⟨h0, _⟩ | ⟨gg, rfl, _, _, r2⟩
      · omega
      have hgl := r1.lt
      have hgl2 := r2.lt
      have i0 : (0 : Int) ≤ (p : Int) := by omega
      have i1 : (p : Int) < (n : Int) := by omega
      have d0 := r1.cell (o := p) hlt
      have c0 := r2.cell (o := p) hlt
      unfold icell at d0 c0
      clear g1 g2
      go_wp2_with fail
      go_region_held3 (fun w' => Kp wr w') (first | exact kp_zero _ | exact kp_drew (by assumption) | exact kp_step (by assumption) (by assumption)) (fail)
      rename_i hK
      have hB' := hB.trans (hK.1.mono hB.size)
      go_wp2_with fail
      exact ⟨⟨p + 1, by omega, by go_num, hB'⟩, by simp [intOf]; omega⟩
    · go_wp2_with fail
      go_ret
      exact ⟨rfl, hB⟩

set_option maxHeartbeats 2000000 in
theorem markI_any (av : Option Addr) (n cap lo hi : Nat) (f : Nat → Value) (k : Int) (w : World) (h : MI w av n cap lo hi f) (hn : n ≤ 1048576) (hk : 0 ≤ k) (hk2 : k ≤ 100000000) :
    Calls Try.prog 26 #[.slice av n cap, .int .i64 k] w fun e w' => e = .returned (.int .i64 (k + n)) ∧ MI w' av n cap lo hi (fun o => .int .i64 (k + o)) ∧ Mk av w w' := by
  obtain ⟨h1, h2, h3⟩ := h
  have hm := h2
  unfold maxLen at hm
  rcases h3 with ⟨rfl, rfl⟩ | ⟨g, rfl, hlo, hhi, hr⟩
  · go_enter Try.func26, Try.ntmps26
    go_wp2_with fail
    go_loopw [1, 5] (fun q i wr => q = .int .i64 k ∧ i = .int .i64 0 ∧ Below w.heap.size w wr) (fun _ i _ => 0)
    case atStart => exact ⟨rfl, rfl, Below.refl _ _⟩
    case round =>
      obtain ⟨rfl, rfl, hB⟩ := hrel
      go_wp2_with fail
      go_ret
      exact ⟨by simp, ⟨h1, h2, Or.inl ⟨rfl, rfl⟩⟩, mk_none hB⟩
  · go_enter Try.func26, Try.ntmps26
    go_wp2_with fail
    go_loopw [1, 5] (fun q i wr => ∃ (j : Nat) (x : Int), j ≤ n ∧ i = .int .i64 j ∧ Hid (x = k + j) ∧ 0 ≤ x ∧ x ≤ 200000000 ∧ q = .int .i64 x ∧ Gr g w wr ∧ ∃ fr, RowAt wr g n fr ∧ Hid (∀ o, o < j → fr o = .int .i64 (k + o))) (fun _ i _ => n - (intOf i).toNat)
    case atStart => exact ⟨0, k, Nat.zero_le _, rfl, (by simp : k = k + ((0 : Nat) : Int)), hk, by omega, rfl, gr_refl _ _, f, hr, fun o ho => absurd ho (by omega)⟩
    case round =>
      clear hr
      obtain ⟨j, x, hj, rfl, hx, hx0, hx1, rfl, hG, fr, hr, hall⟩ := hrel
      have hgl := hr.lt
      by_cases hlt : j < n
      · have i0 : (0 : Int) ≤ (j : Int) := by omega
        have i1 : (j : Int) < (n : Int) := by omega
        have d1 := hr.cell (o := j) hlt
        have d3 := hr.free (o := j) hlt
        go_wp2_with fail
        refine ⟨⟨j + 1, x + 1, by omega, by go_num, (by have q := hx.out; omega : x + 1 = k + ((j + 1 : Nat) : Int)), by omega, (by have q := hx.out; omega), rfl, gr_set hG _ _, _, hr.set hlt _, fun o ho => ?_⟩, by simp [intOf]; omega⟩
        show (if o = j then _ else _) = _
        by_cases e1 : o = j
        · rw [if_pos e1, e1, hx.out]
        · rw [if_neg e1]; exact hall.out o (by omega)
      · have hjn : j = n := by omega
        have HX : Hid (x = k + (n : Int)) := (by rw [← hjn]; exact hx.out : x = k + (n : Int))
        have hr' := hr.same fun o ho => hall.out o (by omega)
        clear hjn
        go_wp2_with fail
        go_ret
        exact ⟨by rw [HX.out]; rfl, ⟨h1, h2, Or.inr ⟨g, rfl, hlo, hhi, hr'⟩⟩, mk_some hG⟩

set_option maxHeartbeats 2000000 in
theorem heldI_any (av : Option Addr) (n cap lo hi : Nat) (k : Int) (w : World) (h : MI w av n cap lo hi (fun o => .int .i64 (k + o))) (hn : n ≤ 1048576) (hk : 0 ≤ k) (hk2 : k ≤ 100000000) :
    Calls Try.prog 27 #[.slice av n cap, .int .i64 k] w fun e w' => e = .returned (.int .i64 (k + n)) ∧ Below w.heap.size w w' := by
  obtain ⟨h1, h2, h3⟩ := h
  have hm := h2
  unfold maxLen at hm
  rcases h3 with ⟨rfl, rfl⟩ | ⟨g, rfl, hlo, hhi, hr⟩
  · go_enter Try.func27, Try.ntmps27
    go_wp2_with fail
    go_loopw [1, 5] (fun q i wr => q = .int .i64 k ∧ i = .int .i64 0 ∧ Below w.heap.size w wr) (fun _ i _ => 0)
    case atStart => exact ⟨rfl, rfl, Below.refl _ _⟩
    case round =>
      obtain ⟨rfl, rfl, hB⟩ := hrel
      go_wp2_with fail
      go_ret
      exact ⟨by simp, hB⟩
  · go_enter Try.func27, Try.ntmps27
    go_wp2_with fail
    go_loopw [1, 5] (fun q i wr => ∃ (j : Nat) (x : Int), j ≤ n ∧ i = .int .i64 j ∧ Hid (x = k + j) ∧ 0 ≤ x ∧ x ≤ 200000000 ∧ q = .int .i64 x ∧ Below w.heap.size w wr) (fun _ i _ => n - (intOf i).toNat)
    case atStart => exact ⟨0, k, Nat.zero_le _, rfl, (by simp : k = k + ((0 : Nat) : Int)), hk, by omega, rfl, Below.refl _ _⟩
    case round =>
      obtain ⟨j, x, hj, rfl, hx, hx0, hx1, rfl, hB⟩ := hrel
      have r := hr.below hB
      have hgl := r.lt
      by_cases hlt : j < n
      · have i0 : (0 : Int) ≤ (j : Int) := by omega
        have i1 : (j : Int) < (n : Int) := by omega
        have d1 := r.cell (o := j) hlt
        rw [← hx.out] at d1
        clear r
        go_wp2_with fail
        exact ⟨⟨j + 1, x + 1, by omega, by go_num, (by have q := hx.out; omega : x + 1 = k + ((j + 1 : Nat) : Int)), by omega, (by have q := hx.out; omega), rfl, hB⟩, by simp [intOf]; omega⟩
      · have hjn : j = n := by omega
        have HX : Hid (x = k + (n : Int)) := (by rw [← hjn]; exact hx.out : x = k + (n : Int))
        clear hjn
        go_wp2_with fail
        go_ret
        exact ⟨by rw [HX.out]; rfl, hB⟩
end Go.Proofs.Ytdpeopmbboogaaa
