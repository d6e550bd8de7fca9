/-
  Contracts of the reader's vec, of DrawVecJoin and DrawCovers, and of the laws' sameVec.
-/
import Derived.Test.YtekmmkibpekkpaaJoin
import Derived.Test.YtekmmkibpekkpaaMark
import Derived.Test.YtekmmkibpekkpaaDraw1
import Derived.Test.YtekmmkibpekkpaaBytes
namespace Go.Proofs.Ytekmmkibpekkpaa
open Go.ChangeShapes Go.WideShapes Go.ChangeAt Go.RowKit
set_option linter.unusedSimpArgs false

theorem gr_grown {g : Nat} {w a b : World} {row : Option Nat} (h : Gr g w a) (hg : a.grownBy b row) (hrow : ∀ k, row = some k → w.heap.size ≤ k) : Gr g w b :=
  ⟨hg.os.trans h.os, hg.tape.trans h.tape, hg.output.trans h.output, Nat.le_trans h.size hg.size, fun i hi hn => (hg.block i (Nat.lt_of_lt_of_le hi h.size) (fun e => by have := hrow i e.symm; omega)).trans (h.block i hi hn)⟩
theorem grown_cell {w a b : World} {row : Option Nat} (hs : w.heap.size ≤ a.heap.size) (hg : a.grownBy b row) (hrow : ∀ k, row = some k → w.heap.size ≤ k) {k : Nat} (hk : k < w.heap.size) (o : Nat) : b.cell? ⟨k, o, none⟩ = a.cell? ⟨k, o, none⟩ ∧ b.frozen? ⟨k, o, none⟩ = a.frozen? ⟨k, o, none⟩ :=
  have e := hg.block k (Nat.lt_of_lt_of_le hk hs) (fun e => by have := hrow k e.symm; omega)
  ⟨World.cell?_of_block (w := a) e, World.frozen?_of_block (w := a) e⟩
theorem Rdr.grown {w a b : World} {row : Option Nat} {g : Nat} {av : Option Addr} {len cap : Nat} (h0 : Rdr w g av len cap) (h : Rdr a g av len cap) (hs : w.heap.size ≤ a.heap.size) (hg : a.grownBy b row) (hrow : ∀ k, row = some k → w.heap.size ≤ k) : Rdr b g av len cap := by
  have key := fun k (hk : k < w.heap.size) o => grown_cell hs hg hrow hk o
  obtain ⟨p, hp, h1⟩ := h.c1
  refine ⟨Nat.lt_of_lt_of_le h.lt hg.size, (key g h0.lt 0).1.trans h.c0, ⟨p, hp, (key g h0.lt 1).1.trans h1⟩, (key g h0.lt 0).2.trans h.f0, (key g h0.lt 1).2.trans h.f1, h.hc, h.hm, ?_⟩
  rcases h0.lies with e0 | ⟨b0, off0, e, hlt, hn, _⟩
  · exact Or.inl e0
  · rcases h.lies with e1 | ⟨b1, off1, e', _, _, hz⟩
    · exact Or.inl e1
    · rw [e] at e'
      injection e' with e'
      injection e' with e1 e2 _
      subst e1 e2
      exact Or.inr ⟨b0, off0, e, by have := hg.size; omega, hn, fun i hi => let ⟨z, h2, h3⟩ := hz i hi; ⟨z, (key b0 hlt _).1.trans h2, h3⟩⟩
theorem owns_gr {w w' : World} {base g : Nat} {e : TypeId} {size n : Nat} {v : Value} {xs : List Value} (h : w.ownsRow base e size v n xs) (hg : Gr g w w') (hb : g < base) : w'.ownsRow base e size v n xs := by
  obtain ⟨h1, h2⟩ := h
  refine ⟨h1, h2.imp id fun ⟨k, cap, cur, hv, hk, hh, r⟩ => ⟨k, cap, cur, hv, hk, ?_, r⟩⟩
  have hlt : k < w.heap.size := by
    rcases Nat.lt_or_ge k w.heap.size with h | h
    · exact h
    · rw [Array.getElem?_eq_none h] at hh; cases hh
  rw [hg.block k hlt (fun e => by injection e with e; omega)]; exact hh
theorem MV.gr {w w' : World} {av : Option Addr} {n cap lo hi g : Nat} {f : Nat → Value} (h : MV w av n cap lo hi f) (hg : Gr g w w') (hb : g < lo) : MV w' av n cap lo hi f :=
  ⟨h.1, h.2.1, h.2.2.imp id fun ⟨k, e, h1, h2, r⟩ => ⟨k, e, h1, h2, r.gr hg (by omega)⟩⟩
theorem MV.wide {w : World} {av : Option Addr} {n cap lo hi lo' hi' : Nat} {f : Nat → Value} (h : MV w av n cap lo hi f) (h1 : lo' ≤ lo) (h2 : hi ≤ hi') : MV w av n cap lo' hi' f :=
  ⟨h.1, h.2.1, h.2.2.imp id fun ⟨k, e, h3, h4, r⟩ => ⟨k, e, by omega, by omega, r⟩⟩

set_option maxHeartbeats 4000000 in
theorem vec_any (g : Nat) (av : Option Addr) (len cap : Nat) (w : World) (h : Rdr w g av len cap) :
    Calls Try.prog 55 #[.pointer (some ⟨g, 0, none⟩)] w fun e w' => ∃ (bv : Option Addr) (n c : Nat) (ds : List (Int × Int)), e = .returned (.slice bv n c) ∧ ds.length = n ∧ n ≤ 4 ∧ MV w' bv n c w.heap.size w'.heap.size (dcell ds) ∧ Rdr w' g av len cap ∧ Gr g w w' := by
  obtain ⟨ti, hi1, hi2, hi3, hi4⟩ := infoDot
  have hi4' : Hid (ti.bytes = 16) := hi4
  have hi2' : Hid (ti.zero = some (.agg #[.int .i64 0, .int .i64 0])) := hi2
  have hi3' : Hid (ti.size = 2) := hi3
  have hi1' : Hid (Try.prog.info? 31 = some ti) := hi1
  clear hi1 hi2 hi3 hi4
  have hgl := h.lt
  go_enter Try.func55, Try.ntmps55
  go_wp2_with fail
  have own0 := owns_empty w 31
  go_loopw [3, 4] (fun v i wr => ∃ (x : Int) (ds : List (Int × Int)), 1 ≤ x ∧ x ≤ 5 ∧ i = .int .i64 x ∧ (ds.length : Int) < x ∧ wr.ownsRow w.heap.size 31 2 v ds.length (dcs ds) ∧ Rdr wr g av len cap ∧ Gr g w wr) (fun _ i _ => 5 - (intOf i).toNat)
  case atStart => exact ⟨1, [], by omega, by omega, rfl, by simp, own0, h.below ((Below.refl _ _).alloc (Nat.le_refl _) _), gr_alloc (gr_refl _ _) _⟩
  case round =>
    clear own0
    obtain ⟨x, ds, hx1, hx5, rfl, hlen, hown, hR, hG⟩ := hrel
    have hs := hG.size
    by_cases hlt : x ≤ 4
    · go_wp2_with fail
      refine (once_any _ _ _ _ _ _ hR (by omega) (by omega)).mono ?_
      rintro e w1 ⟨y, rfl, hR1, hG1⟩
      have hown1 := owns_gr hown hG1 hgl
      have hG1' := gr_trans hG hG1
      have hs1 := hG1'.size
      cases y with
      | false =>
        go_wp2_with fail
        exact ⟨⟨x + 1, ds, by omega, by omega, rfl, by omega, hown1, hR1, hG1'⟩, by simp [intOf]; omega⟩
      | true =>
        go_wp2_with fail
        refine (below_any _ _ _ _ _ _ hR1 (by omega) (by omega)).mono ?_
        rintro e w2 ⟨z, rfl, z0, z1, hR2, hG2⟩
        have hown2 := owns_gr hown1 hG2 hgl
        have hG2' := gr_trans hG1' hG2
        have hs2 := hG2'.size
        clear hown hown1 hR hR1 hG hG1 hG1' hG2
        go_wp2_with (at_builtin; refine wpList_append_lies _ rfl _ _ _ rfl w.heap.size 31 ti _ 2 16 Try.underlying26 hi1'.out hi2'.out hi3'.out hi4'.out rfl (by omega) u3 ds.length (dcs ds) rfl (owns_below hown2 ((Below.refl _ _).alloc (Nat.le_refl _) _)) ⟨w2.heap.size, 0, none⟩ 1 1 [.int .i64 x, .int .i64 (1 + z)] rfl rfl (news2 _ _ _ _) (one2 _ _) (by omega) (by unfold maxLen; omega) (by omega) (by simp; omega) _ rfl ?_; intro g4 cap4 w4 hown4 hgrow4 hat4 hlt4)
        have hrow := owns_base hown2
        have hG4 := gr_grown (gr_alloc hG2' (.cells #[.int .i64 x, .int .i64 (1 + z)] 31)) hgrow4 hrow
        have hR4 := Rdr.grown h (hR2.below ((Below.refl _ _).alloc (Nat.le_refl _) (.cells #[.int .i64 x, .int .i64 (1 + z)] 31))) (by simp; omega) hgrow4 hrow
        exact ⟨⟨x + 1, ds ++ [(x, 1 + z)], by omega, by omega, rfl, by simp; omega, owns_snoc hown4, hR4, hG4⟩, by simp [intOf]; omega⟩
    · obtain ⟨bv, c, rfl, hv, hmv⟩ := owns_vec hown
      have mv : MV wr bv ds.length c w.heap.size wr.heap.size (dcell ds) := ⟨hv.hcap, hv.hmost, hmv.imp (fun h => ⟨h.2, h.1⟩) fun ⟨k, e, hb, r⟩ => ⟨k, e, hb, r.lt, r⟩⟩
      go_wp2_with fail
      refine (once_any _ _ _ _ _ _ hR (by omega) (by omega)).mono ?_
      rintro e w1 ⟨y, rfl, hR1, hG1⟩
      have mv1 := mv.gr hG1 hgl
      have hG1' := gr_trans hG hG1
      have hs1 := hG1'.size
      have hs11 := hG1.size
      cases y with
      | false =>
        go_wp2_with fail
        go_ret
        exact ⟨bv, _, c, ds, rfl, rfl, by omega, mv1.wide (Nat.le_refl _) hs11, hR1, hG1'⟩
      | true =>
        by_cases hz : ds.length = 0
        · have hzb : decide ((0 : Int) < (ds.length : Int)) = false := decide_eq_false (by omega)
          have hzb2 : decide (0 < ds.length) = false := decide_eq_false (by omega)
          clear hz
          go_wp2_with fail
          go_ret
          exact ⟨bv, _, c, ds, rfl, rfl, by omega, mv1.wide (Nat.le_refl _) hs11, hR1, hG1'⟩
        · have hzb : decide ((0 : Int) < (ds.length : Int)) = true := decide_eq_true (by omega)
          have hzb2 : decide (0 < ds.length) = true := decide_eq_true (by omega)
          have hz3 : (0 : Int) < (ds.length : Int) := by omega
          rcases mv1.2.2 with ⟨h0, _⟩ | ⟨k, rfl, hk1, hk2, hrow1⟩
          · exact absurd h0 hz
          go_wp2_with fail
          refine (off_any _ _ _ _ _ _ _ hR1 (by omega) (by omega) (by omega)).mono ?_
          rintro e w2 ⟨z, rfl, z0, z1, hR2, hG2⟩
          have hG2' := gr_trans hG1' hG2
          have hs2 := hG2'.size
          have hs22 := hG2.size
          have hrow2 := hrow1.gr hG2 (by omega)
          have d1 := hrow2.cell (o := 1) (by omega)
          have f1 := hrow2.free (o := 1) (by omega)
          have hkb : k < w2.heap.size := by omega
          go_wp2_with fail
          go_ret
          have hg3 := gr_set (gr_refl k w2) 1 (.int .i64 z)
          have hG3 := gr_grown hG2' hg3 (fun q e => by injection e with e; omega)
          have hR3 := Rdr.grown h hR2 hs2 hg3 (fun q e => by injection e with e; omega)
          have hrow3 := hrow2.set (o := 1) (by omega) (.int .i64 z)
          cases ds with
          | nil => exact absurd rfl hz
          | cons d tl =>
            refine ⟨_, _, c, (d.1, z) :: tl, rfl, rfl, by simp at hlen ⊢; omega, ⟨mv1.1, mv1.2.1, Or.inr ⟨k, rfl, hk1, by simp [World.setCell]; omega, hrow3.same fun o ho => ?_⟩⟩, hR3, hG3⟩
            by_cases e1 : o = 1
            · subst e1; simp [dcell, M1.nm]
            · rw [if_neg e1]
              unfold dcell
              by_cases e0 : o = 0
              · subst e0; simp [M1.rg]
              · obtain ⟨q, hq⟩ : ∃ q, o / 2 = q + 1 := ⟨o / 2 - 1, by omega⟩
                rw [hq]; simp [M1.rg, M1.nm]

theorem sameVec_self (av bv : Option Addr) (n cn cm : Nat) (ds : List (Int × Int)) (w : World) (h1 : IsVec w av n cn ds) (h2 : IsVec w bv n cm ds) :
    Calls Try.prog 12 #[.slice av n cn, .slice bv n cm] w fun e w' => e = .returned (.bool true) ∧ Below w.heap.size w w' := by
  have hm1 := h1.hcap
  have hm2 := h1.hmost
  have hm3 := h2.hcap
  have hm4 := h2.hmost
  unfold maxLen at hm2 hm4
  have hnb : ((n : Int) != (n : Int)) = false := by simp
  go_enter Try.func12, Try.ntmps12
  go_wp2
  go_loopw [5] (fun i wr => ∃ k : Nat, k ≤ n ∧ i = .int .i64 k ∧ Below w.heap.size w wr) (fun i _ => n - (intOf i).toNat)
  case atStart => exact ⟨0, Nat.zero_le _, rfl, Below.refl _ _⟩
  case round =>
    obtain ⟨k, hk, rfl, hB⟩ := hrel
    by_cases hlt : k < n
    · have g1 := h1.below hB
      have g2 := h2.below hB
      rcases g1.hlies with h0 | ⟨b, off, rfl, hb, hc⟩
      · omega
      rcases g2.hlies with h0 | ⟨b2, off2, rfl, hb2, hc2⟩
      · omega
      obtain ⟨c1, c2⟩ := hc k hlt
      obtain ⟨c3, c4⟩ := hc2 k hlt
      clear hc hc2 g1 g2
      have i0 : (0 : Int) ≤ (k : Int) := by omega
      have i1 : (k : Int) < (n : Int) := by omega
      go_wp2_with fail
      go_region_held3 (fun w' => Kp wr w') (first | exact kp_zero _ | exact kp_drew (by assumption) | exact kp_step (by assumption) (by assumption)) (fail)
      rename_i hK
      have hB' := hB.trans (hK.1.mono hB.size)
      go_wp2_with fail
      exact ⟨⟨k + 1, by omega, by go_num, hB'⟩, by simp [intOf]; omega⟩
    · go_wp2_with fail
      go_ret
      exact ⟨rfl, hB⟩

end Go.Proofs.Ytekmmkibpekkpaa