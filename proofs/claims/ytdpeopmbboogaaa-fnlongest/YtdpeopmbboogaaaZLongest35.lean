/-
  The contract of the model's Longest.
-/
import Derived.Test.YtdpeopmbboogaaaZLongest33
import Derived.Test.YtdpeopmbboogaaaZLongest34
import Derived.BigQuiet
namespace Go.Proofs.Ytdpeopmbboogaaa
open Go.ChangeShapes Go.WideShapes Go.ChangeAt Go.RowKit
set_option linter.unusedSimpArgs false
set_option linter.unusedVariables false

theorem nd_some {O : List (M1.Upd × Int)} {k : Nat} (h : k < O.length) : O[k]? = some (nd O k) := by
  unfold nd
  rw [List.getD_eq_getElem?_getD, List.getElem?_eq_getElem h]; rfl

theorem bel_drewN {B : Nat} {a w : World} (h : Below B a w) (n : Nat) : Below B a (w.drewN n) := ⟨h.os, h.tape, h.output, h.size, h.block⟩
theorem ownsI_one (w : World) (e : TypeId) (x : Int) : (w.alloc (.cells #[.int .i64 x] e)).ownsRow w.heap.size e 1 (.slice (some ⟨w.heap.size, 0, none⟩) 1 1) 1 (iL [x]) := by
  refine ⟨rfl, Or.inr ⟨w.heap.size, 1, #[.int .i64 x], rfl, Nat.le_refl _, ?_, Nat.le_refl _, by unfold maxLen; omega, rfl, rfl⟩⟩
  show (w.heap.push (.cells #[.int .i64 x] e))[w.heap.size]? = _
  simp

/-- A list of numbers in memory of one's own. -/
def LgW (w w' : World) (e : Ending) (r : List Int) : Prop := ∃ (av : Option Addr) (cap : Nat), e = .returned (.slice av r.length cap) ∧ MI w' av r.length cap w.heap.size w'.heap.size (icell r)

theorem src_of_mi {w : World} {av : Option Addr} {n c lo hi : Nat} {zs : List Int} (hl : zs.length = n) (h : MI w av n c lo hi (icell zs)) : SrcI w av n zs := by
  refine ⟨hl, ?_⟩
  rcases h.2.2 with ⟨h0, _⟩ | ⟨g, rfl, _, _, r⟩
  · exact Or.inl h0
  · refine Or.inr ⟨g, 0, rfl, fun j hj => ?_⟩
    have := r.cell (o := j) hj
    rw [Nat.zero_add]; exact this

set_option maxHeartbeats 8000000 in
set_option maxRecDepth 100000 in
theorem longest_spec (av : Option Addr) (n cn : Nat) (us : List M1.Upd) (tr : Int) (w : World) (h1 : IsUpds w av n cn us) :
    Calls Try.prog 17 #[.slice av n cn, .int .i64 tr] w fun e w' => LgW w w' e (M1.lngs us tr) ∧ Below w.heap.size w w' := by
  have hl1 : Hid (us.length = n) := h1.hlen
  obtain ⟨ok, hok⟩ : ∃ b, Hid (M1.setOk us = b) := ⟨_, rfl⟩
  have own0 := ownsI_empty w 2
  have hA : Below w.heap.size w (w.alloc (.cells #[] 2)) := (Below.refl _ _).alloc (Nat.le_refl _) _
  go_enter Try.func17, Try.ntmps17
  go_upto_region 2 with fail
  obtain ⟨W0, hW0⟩ : ∃ W, w.alloc (.cells #[] 2) = W := ⟨_, rfl⟩
  rw [hW0] at own0 hA ⊢
  clear hW0
  go_wp2_with fail
  refine (setOk_spec _ _ _ _ _ (h1.below hA)).mono ?_
  rw [hok.out]
  rintro e w1 ⟨rfl, hb1⟩
  have own1 := owns_below own0 hb1
  have hB1 := hA.trans (hb1.mono hA.size)
  have hs1 := hB1.size
  clear own0
  cases ok with
  | false =>
    have HT : Hid (M1.lngs us tr = []) := (by unfold M1.lngs M1.fors M1.sps; rw [hok.out]; rfl : M1.lngs us tr = [])
    have mi := MI.of_owns rfl own1
    go_wp2_with fail
    go_ret
    refine ⟨⟨some ⟨w.heap.size, 0, none⟩, 0, ?_, ?_⟩, hB1⟩
    · rw [HT.out]; rfl
    · rw [HT.out]; exact mi
  | true =>
    have HT : Hid (M1.sps us tr = M1.spTo us tr n) := (by unfold M1.sps; rw [if_pos hok.out, hl1.out] : M1.sps us tr = M1.spTo us tr n)
    have hn60 := M1.setOk_len hok.out
    rw [hl1.out] at hn60
    obtain ⟨S, hS⟩ : ∃ S, Hid (M1.spTo us tr n = S) := ⟨_, rfl⟩
    obtain ⟨m, hm⟩ : ∃ m, Hid (S.length = m) := ⟨_, rfl⟩
    have hmn : m ≤ n := by have := M1.spTo_len us tr n; rw [hS.out, hm.out] at this; exact this
    have HSO : Hid (S.Pairwise M1.idlt) := (by rw [← hS.out]; exact M1.spTo_sorted us tr n : S.Pairwise M1.idlt)
    obtain ⟨O, hO⟩ : ∃ O, Hid (M1.forest S = O) := ⟨_, rfl⟩
    have HF : Hid (M1.fors us tr = O) := (by unfold M1.fors; rw [HT.out, hS.out]; exact hO.out : _ = _)
    have HORD : Hid (M1.Ord O) := (by rw [← hO.out]; exact M1.ord_forest S : M1.Ord O)
    have HEN : Hid (∀ (k : Nat) (q : M1.Upd × Int), O[k]? = some q → 0 ≤ q.1.en) := fun k q hq => M1.fors_en (us := us) (tr := tr) (k := k) (by rw [HF.out]; exact hq)
    obtain ⟨q, hq⟩ : ∃ q, Hid (O.length = q) := ⟨_, rfl⟩
    have hqn : q ≤ n := by have := M1.fors_len us tr; rw [HF.out, hq.out, hl1.out] at this; exact this
    have HL : Hid (M1.lngs us tr = (M1.lng O q).2) := (by unfold M1.lngs; rw [HF.out, hq.out] : _ = _)
    go_wp2_with fail
    have c2 := l4Spans_any _ _ _ _ tr _ (h1.below hB1) (by omega)
    rw [hS.out] at c2
    refine c2.mono ?_
    clear c2
    rintro e w2 ⟨⟨a, c, rfl, mg⟩, hb2⟩
    rw [hm.out] at mg ⊢
    have hs2 := hb2.size
    go_wp2_with fail
    have c3 := l4Forest_any _ _ _ S _ (SpIn.of_mg hm.out mg (Nat.le_refl _)) HSO.out (by omega)
    rw [hO.out] at c3
    refine c3.mono ?_
    clear c3
    rintro e w3 ⟨⟨a3, c3, rfl, mn⟩, hb3⟩
    rw [hq.out] at mn ⊢
    have hs3 := hb3.size
    have own3 := owns_below (owns_below own1 hb2) hb3
    have hB3 := (hB1.trans (hb2.mono hB1.size)).trans (hb3.mono (by omega))
    have mn0 := mn.1
    have mn1 := mn.2.1
    unfold maxLen at mn1
    clear own1 hB1 hb1 hb2 hb3 mg hA
    go_wp2_with fail
    go_loopw [7, 8] (fun bv iv wr => ∃ (k : Nat) (b : Int), k ≤ q ∧ iv = .int .i64 k ∧ bv = .int .i64 b ∧ Hid (M1.Bst O k b) ∧ Below w3.heap.size w3 wr) (fun _ iv _ => q - (intOf iv).toNat)
    case atStart => exact ⟨0, -1, Nat.zero_le _, rfl, rfl, (Or.inl ⟨rfl, rfl⟩ : M1.Bst O 0 (-1)), Below.refl _ _⟩
    case round =>
      obtain ⟨k, b, hk, rfl, rfl, hb, hB⟩ := hrel
      have mnr := mn.below hB
      have hsr := hB.size
      by_cases hlt : k < q
      · rcases mnr.2.2 with ⟨h0, _⟩ | ⟨g, rfl, hlo, hhi, r⟩
        · omega
        have hgl := r.lt
        have k0 : (0 : Int) ≤ (k : Int) := by omega
        have k1 : (k : Int) < (q : Int) := by omega
        have hkO : Hid (O[k]? = some (nd O k)) := nd_some (by rw [hq.out]; exact hlt)
        obtain ⟨x, hx⟩ : ∃ x, Hid (nd O k = x) := ⟨_, rfl⟩
        have d4 := r.cell (o := k * 6 + 4) (by omega)
        have z4 : ncell O (k * 6 + 4) = .int .i64 (nd O k).1.en := ncell_at O k 4 (by omega)
        rw [z4, hx.out] at d4
        have hkx : Hid (O[k]? = some x) := (by rw [hkO.out, hx.out] : _ = _)
        have hx0 := HEN.out k x hkx.out
        clear z4 hkO
        rcases hb.out with ⟨rfl, rfl⟩ | ⟨i, p, hi, rfl, hp, _, _⟩
        · have hn : Hid (M1.Bst O 1 ((0 : Nat) : Int)) := hb.out.step hkx.out hx0 (Or.inl (by omega))
          have hd : decide ((-1 : Int) < 0) = true := by decide
          go_wp2_with fail
          go_quiet (fail)
          go_wp2_with fail
          exact ⟨⟨1, 0, by omega, by go_num, rfl, hn, bel_drewN hB _⟩, by simp [intOf]; omega⟩
        · have hpO : nd O i = p := by
            have := nd_some (O := O) (k := i) (by rw [hq.out]; omega)
            rw [hp] at this
            injection this with e
            exact e.symm
          have c4 := r.cell (o := i * 6 + 4) (by omega)
          have z4 : ncell O (i * 6 + 4) = .int .i64 (nd O i).1.en := ncell_at O i 4 (by omega)
          rw [z4, hpO] at c4
          clear z4
          have i0 : (0 : Int) ≤ (i : Int) := by omega
          have i1 : (i : Int) < (q : Int) := by omega
          have hd : decide ((i : Int) < 0) = false := by simp
          by_cases hc : p.1.en < x.1.en
          · have hn : Hid (M1.Bst O (k + 1) (k : Int)) := hb.out.step hkx.out hx0 (Or.inr ⟨i, p, rfl, hp, hc⟩)
            clear hpO hp
            go_wp2_with fail
            go_quiet (fail)
            go_wp2_with fail
            exact ⟨⟨k + 1, k, by omega, by go_num, rfl, hn, bel_drewN hB _⟩, by simp [intOf]; omega⟩
          · have hn : Hid (M1.Bst O (k + 1) (i : Int)) := hb.out.stay hkx.out hp hc
            clear hpO hp
            go_wp2_with fail
            go_quiet (fail)
            go_wp2_with fail
            exact ⟨⟨k + 1, i, by omega, by go_num, rfl, hn, bel_drewN hB _⟩, by simp [intOf]; omega⟩
      · have hkq : k = q := by omega
        subst hkq
        rcases hb.out with ⟨rfl, rfl⟩ | ⟨i, p, hi, rfl, hp, hb1, hb2⟩
        · have mi := MI.of_owns rfl (owns_below own3 hB)
          have hBr := hB3.trans (hB.mono hB3.size)
          have HE : Hid (M1.lngs us tr = []) := (by rw [HL.out]; rfl : _ = _)
          go_wp2_with fail
          go_ret
          refine ⟨⟨some ⟨w.heap.size, 0, none⟩, 0, ?_, ?_⟩, hBr⟩
          · rw [HE.out]; rfl
          · rw [HE.out]; exact mi
        · rcases mnr.2.2 with ⟨h0, _⟩ | ⟨g, rfl, hlo, hhi, r⟩
          · omega
          have hgl := r.lt
          have i0 : (0 : Int) ≤ (i : Int) := by omega
          have i1 : (i : Int) < (k : Int) := by omega
          have hpO : nd O i = p := by
            have := nd_some (O := O) (k := i) (by rw [hq.out]; omega)
            rw [hp] at this
            injection this with e
            exact e.symm
          have c5 := r.cell (o := i * 6 + 5) (by omega)
          have z5 : ncell O (i * 6 + 5) = .int .i64 (nd O i).2 := ncell_at O i 5 (by omega)
          rw [z5, hpO] at c5
          clear z5 hpO
          have HP : Hid (M1.bck O (i + 1) p.2 = M1.lngs us tr) := (by rw [HL.out, hb2]; exact M1.bck_best HORD.out hp : _ = _)
          have HP2 : Hid (p.2 ≤ 1000) := (by
            have h1 := M1.pth_room HORD.out hp
            have h2 := M1.pth_le O i
            omega : p.2 ≤ 1000)
          have HP0 : Hid (0 ≤ p.2) := (HORD.out i p hp).1
          obtain ⟨D, hD⟩ : ∃ D, Hid (p.2 = D) := ⟨_, rfl⟩
          rw [hD.out] at c5 HP HP2 HP0
          have hBr := hB3.trans (hB.mono hB3.size)
          have ownr := owns_below own3 hB
          clear hb1 hb2 hp hb
          go_wp2_with fail
          obtain ⟨Wo, hWo⟩ : ∃ W, W = wr := ⟨_, rfl⟩
          subst hWo
          go_loopw [5, 9, 10] (fun ov dv iv wr => ∃ (j : Nat) (D' : Int) (zs : List Int) (z : Nat) (oa : Option Addr) (oc : Nat), j ≤ i + 1 ∧ iv = .int .i64 ((j : Int) - 1) ∧ dv = .int .i64 D' ∧ -1000 ≤ D' + (i + 1 - j) ∧ D' ≤ 1000 ∧ ov = .slice oa z oc ∧ Hid (zs.length = z) ∧ z + j ≤ i + 1 ∧ Hid (M1.bck O j D' ++ zs = M1.lngs us tr) ∧ MI wr oa z oc w.heap.size wr.heap.size (icell zs) ∧ Below Wo.heap.size Wo wr) (fun _ _ iv _ => (intOf iv + 1).toNat)
          case atStart => exact ⟨i + 1, D, [], 0, _, _, Nat.le_refl _, by go_num, rfl, by have := HP0.out; omega, HP2.out, rfl, rfl, by omega, by rw [List.append_nil]; exact HP.out, MI.of_owns rfl ownr, Below.refl _ _⟩
          case round =>
            obtain ⟨j, D', zs, z, oa, oc, hj, rfl, rfl, hD0, hD1, rfl, hz, hzj, hbk, mi, hBo⟩ := hrel
            have hso := hBo.size
            have hsW := hBr.size
            cases j with
            | zero =>
              have HE : Hid (M1.lngs us tr = zs) := hbk.out.symm
              have hBf := hBr.trans (hBo.mono hBr.size)
              go_wp2_with fail
              go_ret
              refine ⟨⟨oa, oc, ?_, ?_⟩, hBf⟩
              · rw [HE.out, hz.out]; rfl
              · rw [HE.out, hz.out]; exact mi
            | succ j =>
              have r2 := r.below hBo
              have hgl2 := r2.lt
              have hje : ((j + 1 : Nat) : Int) - 1 = (j : Int) := by omega
              rw [hje]
              have j0 : (0 : Int) ≤ (j : Int) := by omega
              have j1 : (j : Int) < (k : Int) := by omega
              have hjO : Hid (O[j]? = some (nd O j)) := nd_some (by rw [hq.out]; omega)
              obtain ⟨x, hx⟩ : ∃ x, Hid (nd O j = x) := ⟨_, rfl⟩
              have d5 := r2.cell (o := j * 6 + 5) (by omega)
              have z5 : ncell O (j * 6 + 5) = .int .i64 (nd O j).2 := ncell_at O j 5 (by omega)
              rw [z5, hx.out] at d5
              have d0 := r2.cell (o := j * 6) (by omega)
              have z0 : ncell O (j * 6) = .int .i64 (nd O j).1.id := ncell_at O j 0 (by omega)
              rw [z0, hx.out] at d0
              clear z5 z0
              have HB := M1.bck_step (D := D') hjO.out
              rw [hx.out] at HB
              by_cases hc : x.2 = D'
              · have hcb : (x.2 == D') = true := by simp [hc]
                rw [if_pos hc] at HB
                have HN : Hid (M1.bck O j (D' - 1) ++ ([x.1.id] ++ zs) = M1.lngs us tr) := (by rw [← hbk.out, HB, List.append_assoc] : _ = _)
                have hL : Hid (([x.1.id] ++ zs).length = 1 + z) := (by rw [List.length_append, hz.out]; rfl : _ = _)
                have own9 := ownsI_one wr 2 x.1.id
                have src9 := src_of_mi hz.out (mi.below ((Below.refl _ _).alloc (Nat.le_refl _) (.cells #[.int .i64 x.1.id] 2)))
                have hA9 : Below wr.heap.size wr (wr.alloc (.cells #[.int .i64 x.1.id] 2)) := (Below.refl _ _).alloc (Nat.le_refl _) _
                clear HB hc
                go_wp2_with (at_builtin; refine wpList_appI (by rfl) _ _ rfl wr.heap.size _ _ 1 [x.1.id] rfl rfl own9 oa z oc zs rfl src9 (by omega) (by simp) ?_; intro a9 c9 w9 hown9 hb9)
                have mi9 := MI.of_owns hL.out hown9
                have hB9 := hBo.trans ((hA9.trans hb9).mono hso)
                have hs9 := (hA9.trans hb9).size
                refine ⟨⟨j, D' - 1, [x.1.id] ++ zs, 1 + z, a9, c9, by omega, by go_num, rfl, by omega, by omega, rfl, hL, by omega, HN, mi9.wide (by omega) (Nat.le_refl _), hB9⟩, by simp [intOf]⟩
              · have hcb : (x.2 == D') = false := by simp [hc]
                rw [if_neg hc] at HB
                have HN : Hid (M1.bck O j D' ++ zs = M1.lngs us tr) := (by rw [← hbk.out, HB] : _ = _)
                clear HB hc
                go_wp2_with fail
                exact ⟨⟨j, D', zs, z, oa, oc, by omega, by go_num, rfl, by omega, by omega, rfl, hz, by omega, HN, mi, hBo⟩, by simp [intOf]⟩
end Go.Proofs.Ytdpeopmbboogaaa
