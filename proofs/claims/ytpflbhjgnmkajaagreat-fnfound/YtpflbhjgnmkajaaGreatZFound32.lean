/-
  The contracts of both sides' TracesOf.
-/
import Derived.Test.YtpflbhjgnmkajaaGreatZFound31
import Derived.Test.YtpflbhjgnmkajaaGreatZFound15
import Derived.Test.YtpflbhjgnmkajaaGreatZFound18
namespace M1
/-- The traces of the spans, rising, each once. -/
def trs (us : List Upd) : List Int := if setOk us = true then Go.Lib.compact ((trTo us us.length).mergeSort fun x y => decide (x ≤ y)) else []
theorem PutI.len {l : List Int} {n : Int} {r : List Int} (h : PutI l n r) : r.length ≤ l.length + 1 := by
  rcases h with ⟨_, rfl⟩ | ⟨_, k, hk, _, _, rfl⟩
  · omega
  · simp; omega
theorem rises_len : ∀ {a b : List Int}, a.Pairwise (· < ·) → (∀ x, x ∈ a → x ∈ b) → a.length ≤ b.length
  | [], _, _, _ => Nat.zero_le _
  | x :: a, b, ha, h => by
    rw [List.pairwise_cons] at ha
    have hx := h x (by simp)
    have ih := rises_len (a := a) (b := b.erase x) ha.2 (fun y hy => by
      have hne : y ≠ x := by have := ha.1 y hy; omega
      exact (List.mem_erase_of_ne hne).2 (h y (by simp [hy])))
    rw [List.length_erase_of_mem hx] at ih
    have := List.length_pos_of_mem hx
    simp
    omega
theorem srt_le (zs : List Int) : (zs.mergeSort fun x y => decide (x ≤ y)).Pairwise (· ≤ ·) := by
  have := List.pairwise_mergeSort (le := fun x y : Int => decide (x ≤ y)) (by intro a b c; simp; omega) (by intro a b; simp; omega) zs
  exact this.imp (by simp)
theorem comp_len (zs : List Int) : (Go.Lib.compact (zs.mergeSort fun x y => decide (x ≤ y))).length ≤ zs.length := by
  obtain ⟨h1, h2⟩ := compact_sorted (srt_le zs)
  have := rises_len h1 (fun x hx => (h2 x).1 hx)
  rwa [List.length_mergeSort] at this
end M1
namespace Go.Proofs.YtpflbhjgnmkajaaGreat
open Go.ChangeShapes Go.WideShapes Go.ChangeAt Go.RowKit
set_option linter.unusedSimpArgs false
set_option linter.unusedVariables false

/-- A list of numbers in memory of one's own. -/
def TrW (w w' : World) (e : Ending) (r : List Int) : Prop := ∃ (av : Option Addr) (cap : Nat), e = .returned (.slice av r.length cap) ∧ MI w' av r.length cap w.heap.size w'.heap.size (icell r)

set_option maxHeartbeats 8000000 in
set_option maxRecDepth 100000 in
theorem tracesOf_spec (av : Option Addr) (n cn : Nat) (us : List M1.Upd) (w : World) (h1 : IsUpds w av n cn us) :
    Calls Tryz.prog 10 #[.slice av n cn] w fun e w' => TrW w w' e (M1.trs us) ∧ Below w.heap.size w w' := by
  have hl1 : Hid (us.length = n) := h1.hlen
  have hm1 := h1.hcap
  have hm2 := h1.hmost
  unfold maxLen at hm2
  obtain ⟨ok, hok⟩ : ∃ b, Hid (M1.setOk us = b) := ⟨_, rfl⟩
  cases ok with
  | false =>
    have HT : Hid (M1.trs us = []) := (by unfold M1.trs; rw [hok.out]; rfl : M1.trs us = [])
    go_enter Tryz.func10, Tryz.ntmps10
    go_wp2_with fail
    have hA : Below w.heap.size w (w.alloc (.cells #[] 2)) := (Below.refl _ _).alloc (Nat.le_refl _) _
    have mi0 : MI (w.alloc (.cells #[] 2)) (some ⟨w.heap.size, 0, none⟩) 0 0 w.heap.size (w.alloc (.cells #[] 2)).heap.size (icell []) := MI.of_owns rfl (ownsI_empty w _)
    obtain ⟨W0, hW0⟩ : ∃ W, W = (w.alloc (.cells #[] 2)) := ⟨_, rfl⟩
    rw [← hW0] at hA mi0 ⊢
    clear hW0
    go_loopw [3, 4] (fun v i wr => i = .int .i64 0 ∧ v = .slice (some ⟨w.heap.size, 0, none⟩) 0 0 ∧ Below W0.heap.size W0 wr) (fun _ _ _ => 0)
    case atStart => exact ⟨rfl, rfl, Below.refl _ _⟩
    case round =>
      obtain ⟨rfl, rfl, hB⟩ := hrel
      have B1 := hA.trans (hB.mono hA.size)
      go_wp2_with fail
      refine (setOk_spec _ _ _ _ _ (h1.below B1)).mono ?_
      rw [hok.out]
      rintro e w1 ⟨rfl, hb1⟩
      have hb01 := hB.trans (hb1.mono hB.size)
      have hs1 := hb01.size
      go_wp2_with fail
      go_ret
      refine ⟨⟨some ⟨w.heap.size, 0, none⟩, 0, ?_, ?_⟩, hA.trans (hb01.mono hA.size)⟩
      · rw [HT.out]; rfl
      · rw [HT.out]; exact (mi0.below hb01).wide (Nat.le_refl _) hs1
  | true =>
  go_enter Tryz.func10, Tryz.ntmps10
  go_wp2_with fail
  have hA : Below w.heap.size w (w.alloc (.cells #[] 2)) := (Below.refl _ _).alloc (Nat.le_refl _) _
  have mi0 : MI (w.alloc (.cells #[] 2)) (some ⟨w.heap.size, 0, none⟩) 0 0 w.heap.size (w.alloc (.cells #[] 2)).heap.size (icell []) := MI.of_owns rfl (ownsI_empty w _)
  obtain ⟨W0, hW0⟩ : ∃ W, W = (w.alloc (.cells #[] 2)) := ⟨_, rfl⟩
  rw [← hW0] at hA mi0 ⊢
  clear hW0
  go_loopw [3, 4] (fun v i wr => ∃ (k : Nat) (a : Option Addr) (c : Nat) (r : List Int) (m : Nat), k ≤ n ∧ i = .int .i64 k ∧ v = .slice a m c ∧ Hid (r.length = m) ∧ m ≤ k ∧ Hid (r.Pairwise (· < ·)) ∧ Hid (∀ x, x ∈ r ↔ x ∈ M1.trTo us k) ∧ MI wr a m c w.heap.size wr.heap.size (icell r) ∧ Below w.heap.size w wr) (fun _ i _ => n - (intOf i).toNat)
  case atStart => exact ⟨0, _, 0, [], 0, Nat.zero_le _, rfl, rfl, (rfl : ([] : List Int).length = 0), Nat.le_refl _, List.Pairwise.nil, fun x => Iff.rfl, mi0, hA⟩
  case round =>
    clear hA mi0
    obtain ⟨k, a, c, r, m, hk, rfl, rfl, hrm, hmk, hri, hme, hmi, hB⟩ := hrel
    have g1 := h1.below hB
    go_wp2_with fail
    refine (setOk_spec _ _ _ _ _ g1).mono ?_
    rw [hok.out]
    rintro e w1 ⟨rfl, hb1⟩
    have g2 := g1.below hb1
    have mi1 := hmi.below hb1
    have B1 := hB.trans (hb1.mono hB.size)
    have hs1 := hb1.size
    have hsB := hB.size
    clear g1 hmi hB hb1
    have hn60 := M1.setOk_len hok.out
    rw [hl1.out] at hn60
    by_cases hlt : k < n
    · rcases g2.hlies with h0 | ⟨b, off, rfl, hb, hc⟩
      · omega
      obtain ⟨c0, c1, c2, c3, c4, c5, c6, c7, c8, c9, c10, c11, c12⟩ := hc k hlt
      have i0 : (0 : Int) ≤ (k : Int) := by omega
      have i1 : (k : Int) < (n : Int) := by omega
      clear hc
      by_cases hq : (M1.up us k).k = 1
      · have HE : Hid (M1.trTo us (k + 1) = M1.trTo us k ++ [(M1.up us k).tr]) := (by simp [M1.trTo, hq] : M1.trTo us (k + 1) = M1.trTo us k ++ [(M1.up us k).tr])
        rw [hq] at c5
        have hqb : ((M1.up us k).k == 1) = true := by simp [hq]
        go_wp2_with fail
        refine (l4Put_any _ _ _ _ _ _ _ _ hrm mi1 (by omega) (by omega) (by omega)).mono ?_
        rintro e w2 ⟨⟨a2, c2, r2, rfl, hp, mi2⟩, hb2⟩
        have B2 := B1.trans (hb2.mono B1.size)
        have hl2 := hp.len
        rw [hrm.out] at hl2
        have HR : Hid (r2.Pairwise (· < ·)) := hp.rises hri.out
        have HM : Hid (∀ x, x ∈ r2 ↔ x ∈ M1.trTo us (k + 1)) := fun x => by
          rw [hp.mem, hme.out, HE.out]; simp
        go_wp2_with fail
        exact ⟨⟨k + 1, a2, c2, r2, r2.length, by omega, by go_num, rfl, (rfl : r2.length = r2.length), by omega, HR, HM, mi2, B2⟩, by simp [intOf]; omega⟩
      · have HM : Hid (∀ x, x ∈ r ↔ x ∈ M1.trTo us (k + 1)) := fun x => by
          have e : M1.trTo us (k + 1) = M1.trTo us k := by simp [M1.trTo, hq]
          rw [e]; exact hme.out x
        have hqb : ((M1.up us k).k == 1) = false := by simp [hq]
        go_wp2_with fail
        exact ⟨⟨k + 1, a, c, r, m, by omega, by go_num, rfl, hrm, by omega, hri, HM, mi1.wide (Nat.le_refl _) (by omega), B1⟩, by simp [intOf]; omega⟩
    · have hkn : k = n := by omega
      have HT : Hid (M1.trs us = r) := (by
        unfold M1.trs
        rw [if_pos hok.out, hl1.out]
        exact M1.traces_same hri.out (by rw [← hkn]; exact hme.out) : M1.trs us = r)
      clear hkn
      go_wp2_with fail
      go_ret
      refine ⟨⟨a, c, ?_, ?_⟩, B1⟩
      · rw [HT.out, hrm.out]; rfl
      · rw [HT.out, hrm.out]; exact mi1.wide (Nat.le_refl _) (by omega)

set_option maxHeartbeats 8000000 in
set_option maxRecDepth 100000 in
theorem tracesOf_impl (av : Option Addr) (n cn : Nat) (us : List M1.Upd) (w : World) (h1 : IsUpds w av n cn us) :
    Calls Tryz.prog 7 #[.slice av n cn] w fun e w' => TrW w w' e (M1.trs us) ∧ Below w.heap.size w w' := by
  have hl1 : Hid (us.length = n) := h1.hlen
  have hm1 := h1.hcap
  have hm2 := h1.hmost
  unfold maxLen at hm2
  obtain ⟨ok, hok⟩ : ∃ b, Hid (M1.setOk us = b) := ⟨_, rfl⟩
  go_enter Tryz.func7, Tryz.ntmps7
  go_wp2_with fail
  refine (setOk_impl _ _ _ _ _ h1).mono ?_
  rw [hok.out]
  rintro e w1 ⟨rfl, hb1⟩
  cases ok with
  | false =>
    have HT : Hid (M1.trs us = []) := (by unfold M1.trs; rw [hok.out]; rfl : M1.trs us = [])
    go_wp2_with fail
    go_ret
    refine ⟨⟨none, 0, ?_, ?_⟩, hb1⟩
    · rw [HT.out]; rfl
    · rw [HT.out]; exact ⟨Nat.le_refl _, by unfold maxLen; omega, Or.inl ⟨rfl, rfl⟩⟩
  | true =>
    have hn60 := M1.setOk_len hok.out
    rw [hl1.out] at hn60
    go_wp2_with fail
    go_loopw [3, 11] (fun v i wr => ∃ (k : Nat) (a : Option Addr) (c m : Nat), k ≤ n ∧ i = .int .i64 k ∧ v = .slice a m c ∧ Hid ((M1.trTo us k).length = m) ∧ m ≤ k ∧ wr.ownsRow w.heap.size 2 1 (.slice a m c) m (iL (M1.trTo us k)) ∧ Below w.heap.size w wr) (fun _ i _ => n - (intOf i).toNat)
    case atStart => exact ⟨0, none, 0, 0, Nat.zero_le _, rfl, rfl, (rfl : (M1.trTo us 0).length = 0), Nat.le_refl _, ⟨rfl, Or.inl ⟨rfl, rfl⟩⟩, hb1⟩
    case round =>
      clear hb1
      obtain ⟨k, a, c, m, hk, rfl, rfl, hrm, hmk, hown, hB⟩ := hrel
      have hsz := hB.size
      by_cases hlt : k < n
      · have g2 := h1.below hB
        rcases g2.hlies with h0 | ⟨b, off, rfl, hb, hc⟩
        · omega
        obtain ⟨c0, c1, c2, c3, c4, c5, c6, c7, c8, c9, c10, c11, c12⟩ := hc k hlt
        have i0 : (0 : Int) ≤ (k : Int) := by omega
        have i1 : (k : Int) < (n : Int) := by omega
        clear hc
        by_cases hq : (M1.up us k).k = 1
        · have HE : Hid (M1.trTo us (k + 1) = M1.trTo us k ++ [(M1.up us k).tr]) := (by simp [M1.trTo, hq] : M1.trTo us (k + 1) = M1.trTo us k ++ [(M1.up us k).tr])
          rw [hq] at c5
          clear hq
          have hown2 := owns_below (owns_below hown ((Below.refl _ _).alloc (Nat.le_refl _) (.cells #[.int .i64 (M1.up us k).dr, .int .i64 (M1.up us k).dn, .int .i64 (M1.up us k).sw, .int .i64 (M1.up us k).sc, .int .i64 (M1.up us k).sr, .int .i64 1, .int .i64 (M1.up us k).tr, .int .i64 (M1.up us k).id, .int .i64 (M1.up us k).pa, .string (M1.up us k).s, .int .i64 (M1.up us k).st, .int .i64 (M1.up us k).en, .int .i64 (M1.up us k).lv] 50))) ((Below.refl _ _).alloc (Nat.le_refl _) (.cells #[.int .i64 (M1.up us k).tr] 2))
          have hsrc : SrcI ((wr.alloc (.cells #[.int .i64 (M1.up us k).dr, .int .i64 (M1.up us k).dn, .int .i64 (M1.up us k).sw, .int .i64 (M1.up us k).sc, .int .i64 (M1.up us k).sr, .int .i64 1, .int .i64 (M1.up us k).tr, .int .i64 (M1.up us k).id, .int .i64 (M1.up us k).pa, .string (M1.up us k).s, .int .i64 (M1.up us k).st, .int .i64 (M1.up us k).en, .int .i64 (M1.up us k).lv] 50)).alloc (.cells #[.int .i64 (M1.up us k).tr] 2)) (some ⟨wr.heap.size + 1, 0, none⟩) 1 [(M1.up us k).tr] := by
            have q := src_one (wr.alloc (.cells #[.int .i64 (M1.up us k).dr, .int .i64 (M1.up us k).dn, .int .i64 (M1.up us k).sw, .int .i64 (M1.up us k).sc, .int .i64 (M1.up us k).sr, .int .i64 1, .int .i64 (M1.up us k).tr, .int .i64 (M1.up us k).id, .int .i64 (M1.up us k).pa, .string (M1.up us k).s, .int .i64 (M1.up us k).st, .int .i64 (M1.up us k).en, .int .i64 (M1.up us k).lv] 50)) (M1.up us k).tr 2
            have ez : (wr.alloc (.cells #[.int .i64 (M1.up us k).dr, .int .i64 (M1.up us k).dn, .int .i64 (M1.up us k).sw, .int .i64 (M1.up us k).sc, .int .i64 (M1.up us k).sr, .int .i64 1, .int .i64 (M1.up us k).tr, .int .i64 (M1.up us k).id, .int .i64 (M1.up us k).pa, .string (M1.up us k).s, .int .i64 (M1.up us k).st, .int .i64 (M1.up us k).en, .int .i64 (M1.up us k).lv] 50)).heap.size = wr.heap.size + 1 := by simp
            rw [ez] at q
            exact q
          have hB2 : Below w.heap.size w ((wr.alloc (.cells #[.int .i64 (M1.up us k).dr, .int .i64 (M1.up us k).dn, .int .i64 (M1.up us k).sw, .int .i64 (M1.up us k).sc, .int .i64 (M1.up us k).sr, .int .i64 1, .int .i64 (M1.up us k).tr, .int .i64 (M1.up us k).id, .int .i64 (M1.up us k).pa, .string (M1.up us k).s, .int .i64 (M1.up us k).st, .int .i64 (M1.up us k).en, .int .i64 (M1.up us k).lv] 50)).alloc (.cells #[.int .i64 (M1.up us k).tr] 2)) := (hB.alloc hB.size _).alloc (by simp; omega) _
          go_wp2_with (at_builtin; refine wpList_appI (by rfl) _ _ rfl w.heap.size _ _ m (M1.trTo us k) hrm.out rfl hown2 _ _ _ [(M1.up us k).tr] rfl hsrc (by omega) (by simp; omega) ?_; intro a2 c2 w2 own2 hb2)
          have HL : Hid ((M1.trTo us (k + 1)).length = m + 1) := (by rw [HE.out]; simp [hrm.out] : (M1.trTo us (k + 1)).length = m + 1)
          exact ⟨⟨k + 1, a2, c2, m + 1, by omega, by go_num, rfl, HL, by omega, by rw [HE.out]; exact own2, hB2.trans hb2⟩, by simp [intOf]; omega⟩
        · have HE : Hid (M1.trTo us (k + 1) = M1.trTo us k) := (by simp [M1.trTo, hq] : M1.trTo us (k + 1) = M1.trTo us k)
          have hqb : ((M1.up us k).k == 1) = false := by simp [hq]
          go_wp2_with fail
          exact ⟨⟨k + 1, a, c, m, by omega, by go_num, rfl, (by rw [HE.out]; exact hrm.out : (M1.trTo us (k + 1)).length = m), by omega, by rw [HE.out]; exact owns_below hown ((Below.refl _ _).alloc (Nat.le_refl _) _), hB.alloc hB.size _⟩, by simp [intOf]; omega⟩
      · have hkn : Hid (k = n) := (by omega : k = n)
        have HT : Hid (M1.trs us = Go.Lib.compact (srt (M1.trTo us k))) := (by
          unfold M1.trs
          rw [if_pos hok.out, hl1.out, hkn.out]; rfl : M1.trs us = Go.Lib.compact (srt (M1.trTo us k)))
        have HC : Hid ((Go.Lib.compact (srt (M1.trTo us k))).length ≤ m) := (by rw [← hrm.out]; exact M1.comp_len _ : (Go.Lib.compact (srt (M1.trTo us k))).length ≤ m)
        have mi := MI.of_owns hrm.out hown
        obtain ⟨ts, hts⟩ : ∃ ts, Hid (M1.trTo us k = ts) := ⟨_, rfl⟩
        rw [hts.out] at mi hrm HT HC
        clear hown
        by_cases hm0 : m = 0
        · subst hm0
          have hnil : ts = [] := List.eq_nil_of_length_eq_zero hrm.out
          have HT2 : Hid (M1.trs us = []) := (by rw [HT.out]; exact List.eq_nil_of_length_eq_zero (by have := HC.out; omega) : M1.trs us = [])
          go_wp2_with fail
          refine (sortI_none _ _ _).mono ?_
          rintro e w2 ⟨rfl, hw2⟩
          subst hw2
          go_wp2_with fail
          refine (compI_none _ _ _).mono ?_
          rintro e w3 ⟨rfl, hw3⟩
          subst hw3
          go_wp2_with fail
          go_ret
          subst hnil
          refine ⟨⟨a, c, ?_, ?_⟩, hB⟩
          · rw [HT2.out]; rfl
          · rw [HT2.out]; exact mi
        · rcases mi.2.2 with ⟨h0, _⟩ | ⟨g, rfl, hlo, hhi, r⟩
          · exact absurd h0 hm0
          have hmc := mi.1
          have hmm := mi.2.1
          clear mi
          obtain ⟨T, hT⟩ : ∃ T, Hid (Go.Lib.compact (srt ts) = T) := ⟨_, rfl⟩
          rw [hT.out] at HT HC
          go_wp2_with fail
          have c2 := sortI_any g c ts wr (by rw [hrm.out]; exact r) (by rw [hrm.out]; omega)
          rw [hrm.out] at c2
          refine c2.mono ?_
          clear c2
          rintro e w2 ⟨rfl, r2, G2⟩
          have hs2 := G2.size
          go_wp2_with fail
          have c3 := compI_any g c (srt ts) w2 (by rw [srt_len, hrm.out]; exact r2) (by rw [srt_len, hrm.out]; omega) (by rw [srt_len, hrm.out]; exact hmc) (by rw [srt_len, hrm.out, hT.out]; exact HC.out)
          rw [srt_len, hrm.out, hT.out] at c3
          refine c3.mono ?_
          clear c3
          rintro e w3 ⟨rfl, r3, G3⟩
          have hs3 := G3.size
          have G23 := gr_trans G2 G3
          have HC' := HC.out
          go_wp2_with fail
          go_ret
          refine ⟨⟨some ⟨g, 0, none⟩, c, ?_, ?_⟩, hB.trans (gr_to G23 hB.size (by omega))⟩
          · rw [HT.out]; rfl
          · rw [HT.out]; exact ⟨by omega, hmm, Or.inr ⟨g, rfl, hlo, by omega, r3⟩⟩
end Go.Proofs.YtpflbhjgnmkajaaGreat
