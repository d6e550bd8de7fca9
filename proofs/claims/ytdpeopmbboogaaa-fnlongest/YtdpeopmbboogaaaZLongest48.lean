/-
  The contract of the program's Longest.
-/
import Derived.Test.YtdpeopmbboogaaaZLongest35
import Derived.Test.YtdpeopmbboogaaaZLongest47
import Derived.Test.YtdpeopmbboogaaaZLongest18
import Derived.Laws.Cover3
namespace Go.Proofs.Ytdpeopmbboogaaa
open Go.ChangeShapes Go.WideShapes Go.ChangeAt Go.RowKit
set_option linter.unusedSimpArgs false
set_option linter.unusedVariables false

theorem ownsI_take {w : World} {base z pc : Nat} {e : TypeId} {pa : Option Addr} {zs : List Int} (h : w.ownsRow base e 1 (.slice pa z pc) z (iL zs)) {d : Nat} (hd : d ≤ z) : w.ownsRow base e 1 (.slice pa d pc) d (iL (zs.take d)) := by
  obtain ⟨h1, h2⟩ := h
  rw [iL_len] at h1
  refine ⟨by rw [iL_len, List.length_take]; omega, ?_⟩
  rcases h2 with ⟨e1, h3⟩ | ⟨g, cap', cur, e1, hg, hh, hn, hm, hs, ht⟩
  · injection e1 with a1 a2 a3
    subst a1; subst a3
    exact Or.inl ⟨by rw [show d = 0 by omega], by omega⟩
  · injection e1 with a1 a2 a3
    subst a1; subst a3
    refine Or.inr ⟨g, pc, cur, rfl, hg, hh, by omega, hm, hs, ?_⟩
    have : iL (zs.take d) = (iL zs).take d := by simp [iL, List.map_take]
    rw [this, ← ht, List.take_take]
    congr 1
    omega
/-- An append of one number in a region that draws its order. -/
theorem step_appI {ops : Array Oper} {o : Oper} {a : Act} {w : World} {K : Act → World → Prop} {Q : Exit → Act → World → Prop} {E : Prop} (hg : o.guard = none) (s x : Operand)
    (ho : o.op = .call { callee := .builtin .append, args := #[s, x], argTypes := #[37, 37] })
    (base : Nat) (xv : Option Addr) (xc n : Nat) (ns : List Int) (hs : a.eval s = .slice xv n xc) (hown : w.ownsRow base 2 1 (.slice xv n xc) n (iL ns))
    (b yc : Nat) (y : Int) (hx : a.eval x = .slice (some ⟨b, 0, none⟩) 1 yc) (hc : w.cell? ⟨b, 0, none⟩ = some (.int .i64 y)) (hlen : n + 1 ≤ 100000000) (hbase : base ≤ w.heap.size)
    (h : ∀ g cap w', w'.ownsRow base 2 1 (.slice (some ⟨g, 0, none⟩) (n + 1) cap) (n + 1) (iL (ns ++ [y])) → w.grownBy w' (Value.slice xv n xc).ownBlock → ((Value.slice xv n xc).ownBlock = some g ∨ g = w.heap.size) → K (a.put o.dst (.slice (some ⟨g, 0, none⟩) (n + 1) cap)) w') :
    if Region.wanted o (yielded ops a.tmps) = true then Oper.wp Try.prog o a w K Q else E := by
  have hw : Region.wanted o (yielded ops a.tmps) = true := by simp [Region.wanted, hg]
  rw [if_pos hw]
  obtain ⟨ti, hi1, hi2, hi3, hi4⟩ := infoI
  refine wp_append_lies w s x 37 ho base 2 ti _ 1 8 Try.underlying37 hi1 hi2 hi3 hi4 rfl (by omega) (.slice xv n xc) n (iL ns) hs hown ⟨b, 0, none⟩ 1 yc (iL [y]) hx rfl ?_ (iL_one [y]) (by omega) (by unfold maxLen; omega) (by omega) hbase _ rfl ?_
  · intro j u hu
    have hj : j < 1 := by
      have := (List.getElem?_eq_some_iff.1 hu).1
      simpa [iL] using this
    have e : j = 0 := by omega
    subst e
    have e2 : u = .int .i64 y := by simpa [iL] using hu.symm
    rw [e2]; exact hc
  · intro g cap w' hown' hgrow hat hlt
    have e : iL (ns ++ [y]) = iL ns ++ iL [y] := by simp [iL]
    exact h g cap w' (by rw [e]; exact hown') hgrow hat

set_option maxHeartbeats 2000000 in
set_option maxRecDepth 100000 in
@[go_sem] theorem eqlINil (w : World) (a : Option Addr) (l c : Nat) : (binOp .eql 37 (.slice a l c) (.slice none 0 0)).run Try.prog w = .ok (.bool a.isNone) w := by
  simp only [binOp]
  simp [run_equal_slice_nil w _ _ a l c Try.underlying37]
set_option maxHeartbeats 2000000 in
set_option maxRecDepth 100000 in
theorem cloneI_any (av : Option Addr) (m c lo hi : Nat) (zs : List Int) (w : World) (hl : Hid (zs.length = m)) (h : MI w av m c lo hi (icell zs)) (hm : m ≤ 1000) :
    Calls Try.prog 46 #[.slice av m c] w fun e w' => (∃ (a : Option Addr) (c2 : Nat), e = .returned (.slice a m c2) ∧ MI w' a m c2 w.heap.size w'.heap.size (icell zs)) ∧ Below w.heap.size w w' := by
  rcases h.2.2 with ⟨h0, rfl⟩ | ⟨g, rfl, h3, h4, r⟩
  · subst h0
    go_enter Try.func46, Try.ntmps46
    go_wp2_with fail
    go_ret
    exact ⟨⟨none, 0, rfl, Nat.le_refl _, by unfold maxLen; omega, Or.inl ⟨rfl, rfl⟩⟩, Below.refl _ _⟩
  · have own0 := ownsI_empty w 2
    have hA : Below w.heap.size w (w.alloc (.cells #[] 2)) := (Below.refl _ _).alloc (Nat.le_refl _) _
    have src := src_of_mi hl.out (h.below hA)
    go_enter Try.func46, Try.ntmps46
    go_wp2_with (at_builtin; refine wpList_appI (by rfl) _ _ rfl w.heap.size _ _ 0 [] rfl rfl own0 _ m c zs rfl src (by omega) (by simp) ?_; intro a9 c9 w9 hown9 hb9)
    go_ret
    (try rw [Nat.zero_add] at hown9)
    (try rw [List.nil_append] at hown9)
    exact ⟨⟨a9, c9, rfl, MI.of_owns hl.out hown9⟩, hA.trans hb9⟩

set_option maxHeartbeats 8000000 in
set_option maxRecDepth 100000 in
theorem longest_impl (av : Option Addr) (n cn : Nat) (us : List M1.Upd) (tr : Int) (w : World) (h1 : IsUpds w av n cn us) :
    Calls Try.prog 15 #[.slice av n cn, .int .i64 tr] w fun e w' => LgW w w' e (M1.lngs us tr) ∧ Below w.heap.size w w' := by
  obtain ⟨O, HF⟩ : ∃ O, Hid (M1.fors us tr = O) := ⟨_, rfl⟩
  have HORD : Hid (M1.Ord O) := (by rw [← HF.out]; exact M1.ord_forest _ : M1.Ord O)
  obtain ⟨q, hq⟩ : ∃ q, Hid (O.length = q) := ⟨_, rfl⟩
  have hq60 : q ≤ 60 := by
    have h2 := M1.sps_60 us tr
    have h3 := M1.for_len_eq (M1.sps_sorted us tr)
    have h4 : O.length = (M1.sps us tr).length := by rw [← HF.out]; exact h3
    rw [hq.out] at h4
    omega
  have HL : Hid (M1.lngs us tr = (M1.lng O q).2) := (by unfold M1.lngs; rw [HF.out, hq.out] : _ = _)
  go_enter Try.func15, Try.ntmps15
  go_wp2_with fail
  have c1 := forestOf_impl _ _ _ _ tr _ h1
  rw [HF.out] at c1
  refine c1.mono ?_
  clear c1
  rintro e w1 ⟨⟨a1, k1, rfl, mn⟩, hb1⟩
  rw [hq.out] at mn ⊢
  have hs1 := hb1.size
  have mn0 := mn.1
  have mn1 := mn.2.1
  unfold maxLen at mn1
  go_wp2_with fail
  go_loopw [5, 6, 7, 14] (fun pv lv tv iv wr => ∃ (k : Nat) (t : Int) (pa : Option Addr) (z pc : Nat) (la : Option Addr) (y lc : Nat), k ≤ q ∧ iv = .int .i64 k ∧ tv = .int .i64 t ∧ pv = .slice pa z pc ∧ lv = .slice la y lc ∧ Hid ((M1.lng O k).1 = t) ∧ Hid ((M1.pth O k).length = z) ∧ Hid ((M1.lng O k).2.length = y) ∧ wr.ownsRow w1.heap.size 2 1 (.slice pa z pc) z (iL (M1.pth O k)) ∧ MI wr la y lc w1.heap.size wr.heap.size (icell (M1.lng O k).2) ∧ Hid (∀ g, pa = some ⟨g, 0, none⟩ → ¬ la = some ⟨g, 0, none⟩) ∧ Below w1.heap.size w1 wr) (fun _ _ _ iv _ => q - (intOf iv).toNat)
  case atStart => exact ⟨0, -1, none, 0, 0, none, 0, 0, Nat.zero_le _, rfl, rfl, rfl, rfl, rfl, rfl, rfl, ⟨rfl, Or.inl ⟨rfl, rfl⟩⟩, ⟨Nat.le_refl _, by unfold maxLen; omega, Or.inl ⟨rfl, rfl⟩⟩, (fun g e => by cases e), Below.refl _ _⟩
  case round =>
    obtain ⟨k, t, pa, z, pc, la, y, lc, hk, rfl, rfl, rfl, rfl, ht, hz, hy, own, mi, hne, hB⟩ := hrel
    have hsr := hB.size
    by_cases hlt : k < q
    · rcases (mn.below hB).2.2 with ⟨h0, _⟩ | ⟨g, rfl, hlo, hhi, r⟩
      · omega
      have hgl := r.lt
      have k0 : (0 : Int) ≤ (k : Int) := by omega
      have k1 : (k : Int) < (q : Int) := by omega
      have hkO : Hid (O[k]? = some (nd O k)) := nd_some (by rw [hq.out]; exact hlt)
      obtain ⟨x, hx⟩ : ∃ x, Hid (nd O k = x) := ⟨_, rfl⟩
      have hkx : Hid (O[k]? = some x) := (by rw [hkO.out, hx.out] : _ = _)
      have d0 := r.cell (o := k * 6) (by omega)
      have d1 := r.cell (o := k * 6 + 1) (by omega)
      have d2 := r.cell (o := k * 6 + 2) (by omega)
      have d3 := r.cell (o := k * 6 + 3) (by omega)
      have d4 := r.cell (o := k * 6 + 4) (by omega)
      have d5 := r.cell (o := k * 6 + 5) (by omega)
      rw [show ncell O (k * 6) = .int .i64 (nd O k).1.id from ncell_at O k 0 (by omega), hx.out] at d0
      rw [show ncell O (k * 6 + 1) = .int .i64 (nd O k).1.pa from ncell_at O k 1 (by omega), hx.out] at d1
      rw [show ncell O (k * 6 + 2) = .string (nd O k).1.s from ncell_at O k 2 (by omega), hx.out] at d2
      rw [show ncell O (k * 6 + 3) = .int .i64 (nd O k).1.st from ncell_at O k 3 (by omega), hx.out] at d3
      rw [show ncell O (k * 6 + 4) = .int .i64 (nd O k).1.en from ncell_at O k 4 (by omega), hx.out] at d4
      rw [show ncell O (k * 6 + 5) = .int .i64 (nd O k).2 from ncell_at O k 5 (by omega), hx.out] at d5
      clear hkO
      obtain ⟨D, hD⟩ : ∃ D : Nat, Hid (x.2 = (D : Int)) := ⟨x.2.toNat, (by have := (HORD.out k x hkx.out).1; omega : x.2 = _)⟩
      rw [hD.out] at d5
      have hDz : D ≤ z := by have := M1.pth_room HORD.out hkx.out; rw [hz.out, hD.out] at this; simpa using this
      have hzk : z ≤ k := by have := M1.pth_le O k; rw [hz.out] at this; exact this
      have HPS : Hid (M1.pth O (k + 1) = (M1.pth O k).take D ++ [x.1.id]) := (by have := M1.pth_step hkx.out; rw [hD.out] at this; simpa using this : _ = _)
      have HLS : Hid (M1.lng O (k + 1) = if t < x.1.en then (x.1.en, M1.pth O (k + 1)) else M1.lng O k) := (by have := M1.lng_step hkx.out; rw [ht.out] at this; exact this : _ = _)
      have hpc : z ≤ pc := by
        rcases own.2 with ⟨e1, h3⟩ | ⟨g, cap', cur, e1, _, _, hn, _⟩
        · injection e1 with _ _ a3; omega
        · injection e1 with _ _ a3; omega
      have hpm : pc ≤ 9223372036854775807 := by
        rcases own.2 with ⟨e1, h3⟩ | ⟨g, cap', cur, e1, _, _, hn, hm, _⟩
        · injection e1 with _ _ a3; omega
        · injection e1 with _ _ a3; unfold maxLen at hm; omega
      have hpg : Hid (∀ g, pa = some ⟨g, 0, none⟩ → g < wr.heap.size) := fun g e => by
        rcases own.2 with ⟨e1, h3⟩ | ⟨g2, cap', cur, e1, _, hh, _⟩
        · injection e1 with a1 _ _; rw [e] at a1; cases a1
        · injection e1 with a1 _ _
          rw [e] at a1; injection a1 with a1; injection a1 with a1 _ _
          rw [a1]; exact (Array.getElem?_eq_some_iff.1 hh).1
      have hsl0 : (0 : Int) ≤ (D : Int) := by omega
      have hsl1 : (D : Int) ≤ (pc : Int) := by omega
      go_upto_region 6 with fail
      have hA9 : Below wr.heap.size wr (wr.alloc (.cells #[.int .i64 x.1.id, .int .i64 x.1.pa, .string x.1.s, .int .i64 x.1.st, .int .i64 x.1.en, .int .i64 (D : Int)] 36)) := (Below.refl _ _).alloc (Nat.le_refl _) _
      have row9 : RowAt (wr.alloc (.cells #[.int .i64 x.1.id, .int .i64 x.1.pa, .string x.1.s, .int .i64 x.1.st, .int .i64 x.1.en, .int .i64 (D : Int)] 36)) wr.heap.size 6 (fun o => (#[.int .i64 x.1.id, .int .i64 x.1.pa, .string x.1.s, .int .i64 x.1.st, .int .i64 x.1.en, .int .i64 (D : Int)] : Array Value).getD o undef) := RowAt.new wr _ _
      have hz9 : Hid ((wr.alloc (.cells #[.int .i64 x.1.id, .int .i64 x.1.pa, .string x.1.s, .int .i64 x.1.st, .int .i64 x.1.en, .int .i64 (D : Int)] 36)).heap.size = wr.heap.size + 1) := (by simp : _ = _)
      obtain ⟨W9, hW9⟩ : ∃ W, wr.alloc (.cells #[.int .i64 x.1.id, .int .i64 x.1.pa, .string x.1.s, .int .i64 x.1.st, .int .i64 x.1.en, .int .i64 (D : Int)] 36) = W := ⟨_, rfl⟩
      rw [hW9] at hA9 row9 hz9 ⊢
      clear hW9 d0 d1 d2 d3 d4 d5
      have own9 := owns_below (ownsI_take own hDz) hA9
      have mi9 := mi.below hA9
      have hB9 := hB.trans (hA9.mono hsr)
      have c0 := row9.cell (o := 0) (by omega)
      have c4 := row9.cell (o := 4) (by omega)
      have c5 := row9.cell (o := 5) (by omega)
      simp at c0 c4 c5
      have hW9s := row9.lt
      obtain ⟨Bx, hBx⟩ : ∃ B, Hid (wr.heap.size = B) := ⟨_, rfl⟩
      have hBg : Hid (∀ g, pa = some ⟨g, 0, none⟩ → ¬ g = Bx) := fun g e => by have := hpg.out g e; rw [hBx.out] at this; omega
      have hsz9 : Hid (W9.heap.size = Bx + 1) := (by rw [hz9.out, hBx.out] : _ = _)
      have mi9' : MI W9 la y lc w1.heap.size Bx (icell (M1.lng O k).2) := by rw [← hBx.out]; exact mi9
      have hsB : w1.heap.size ≤ Bx := by rw [← hBx.out]; exact hsr
      rw [hBx.out] at c0 c4 c5 hW9s ⊢
      clear mi own hA9 row9 hz9 mi9 hpg hgl r hsr hB
      refine wp_region_held_drew (S := fun w' => w'.cell? ⟨Bx, 0, none⟩ = some (.int .i64 x.1.id) ∧ w'.cell? ⟨Bx, 5, none⟩ = some (.int .i64 (D : Int))) (by kernel_rfl) ?_ (fun hHeld => ?_)
      · exact ⟨c0, c5⟩
      refine wpAnyH_take (i := 0) (v := ?_) rfl (by kernel_rfl) (by kernel_rfl) (by kernel_rfl) (fun _ _ _ h => h) (Or.inl ⟨by rfl, ?_⟩) hHeld ?_
      rotate_left
      · (intro w hSw; (try dsimp only at hSw); go_simp; try (with_reducible rfl))
      (try simp only [Act.put, List.getElem_toArray, List.getElem_cons_zero, List.getElem_cons_succ, List.setIfInBounds_toArray, List.set_cons_zero, List.set_cons_succ])
      refine wpAnyH_take (i := 1) (v := ?_) rfl (by kernel_rfl) (by kernel_rfl) (by kernel_rfl) (fun _ _ _ h => h) (Or.inl ⟨by rfl, ?_⟩) hHeld ?_
      rotate_left
      · (intro w hSw; (try dsimp only at hSw); go_simp; try (with_reducible rfl))
      (try simp only [Act.put, List.getElem_toArray, List.getElem_cons_zero, List.getElem_cons_succ, List.setIfInBounds_toArray, List.set_cons_zero, List.set_cons_succ])
      refine wpAnyH_take (i := 2) (v := ?_) rfl (by kernel_rfl) (by kernel_rfl) (by kernel_rfl) (fun _ _ _ h => h) (Or.inl ⟨by rfl, ?_⟩) hHeld ?_
      rotate_left
      · (intro w hSw; (try dsimp only at hSw); go_simp; try (with_reducible rfl))
      (try simp only [Act.put, List.getElem_toArray, List.getElem_cons_zero, List.getElem_cons_succ, List.setIfInBounds_toArray, List.set_cons_zero, List.set_cons_succ])
      refine wpAnyH_take (i := 3) (v := .slice pa D pc) rfl (by kernel_rfl) (by kernel_rfl) (by kernel_rfl) (fun _ _ _ h => h) (Or.inl ⟨by rfl, ?_⟩) hHeld ?_
      · (intro w hSw; (try dsimp only at hSw); go_simp; (try rfl))
      (try simp only [Act.put, List.getElem_toArray, List.getElem_cons_zero, List.getElem_cons_succ, List.setIfInBounds_toArray, List.set_cons_zero, List.set_cons_succ])
      refine wpAnyH_take (i := 4) (v := ?_) rfl (by kernel_rfl) (by kernel_rfl) (by kernel_rfl) (fun _ _ _ h => h) (Or.inl ⟨by rfl, ?_⟩) hHeld ?_
      rotate_left
      · (intro w hSw; (try dsimp only at hSw); go_simp; try (with_reducible rfl))
      (try simp only [Act.put, List.getElem_toArray, List.getElem_cons_zero, List.getElem_cons_succ, List.setIfInBounds_toArray, List.set_cons_zero, List.set_cons_succ])
      refine wpAnyH_take (i := 5) (v := ?_) rfl (by kernel_rfl) (by kernel_rfl) (by kernel_rfl) (fun _ _ _ h => h) (Or.inl ⟨by rfl, ?_⟩) hHeld ?_
      rotate_left
      · (intro w hSw; (try dsimp only at hSw); go_simp; try (with_reducible rfl))
      (try simp only [Act.put, List.getElem_toArray, List.getElem_cons_zero, List.getElem_cons_succ, List.setIfInBounds_toArray, List.set_cons_zero, List.set_cons_succ])
      refine wpAnyH_take (i := 6) (v := ?_) rfl (by kernel_rfl) (by kernel_rfl) (by kernel_rfl) (fun _ _ _ h => h) (Or.inl ⟨by rfl, ?_⟩) hHeld ?_
      rotate_left
      · (intro w hSw; (try dsimp only at hSw); go_simp; try (with_reducible rfl))
      (try simp only [Act.put, List.getElem_toArray, List.getElem_cons_zero, List.getElem_cons_succ, List.setIfInBounds_toArray, List.set_cons_zero, List.set_cons_succ])
      refine wpAnyH_ready (rs := [7]) (by kernel_rfl) (by simp) ?_
      refine AllReadyH.cons (o := _) rfl (fun K hK => ?_) AllReadyH.nil
      go_simp
      skip
      refine hK.out _ _ ?_ (fun hHeld2 => ?_)
      · exact ⟨(World.cell?_alloc_lt _ _ _ (by simpa using hW9s)).trans hHeld.1, (World.cell?_alloc_lt _ _ _ (by simpa using hW9s)).trans hHeld.2⟩
      clear hK K hHeld
      have hHeld := hHeld2
      clear hHeld2
      (try simp only [Act.put, List.getElem_toArray, List.getElem_cons_zero, List.getElem_cons_succ, List.setIfInBounds_toArray, List.set_cons_zero, List.set_cons_succ])
      refine wpAnyH_ready (rs := [8]) (by kernel_rfl) (by simp) ?_
      refine AllReadyH.cons (o := _) rfl (fun K hK => ?_) AllReadyH.nil
      have hA10 : Below W9.heap.size W9 (W9.alloc (.cells #[.int .i64 x.1.id] 2)).drew := ((Below.refl _ _).alloc (Nat.le_refl _) _).drew
      have own10 := owns_below own9 hA10
      have mi10 := mi9'.below hA10
      have hB10 := hB9.trans (hA10.mono (by have := hsz9.out; omega))
      have hc10 : (W9.alloc (.cells #[.int .i64 x.1.id] 2)).drew.cell? ⟨W9.heap.size, 0, none⟩ = some (.int .i64 x.1.id) := by
        have := src_one W9 x.1.id 2
        rcases this.2 with h0 | ⟨b, off, e, h⟩
        · cases h0
        · injection e with e; injection e with e1 e2 _
          have q := h 0 (by omega)
          rw [← e1, ← e2] at q
          exact q
      have c4' : (W9.alloc (.cells #[.int .i64 x.1.id] 2)).drew.cell? ⟨Bx, 4, none⟩ = some (.int .i64 x.1.en) := (World.cell?_alloc_lt _ _ _ (by simpa using hW9s)).trans c4
      have hsz10 : Hid ((W9.alloc (.cells #[.int .i64 x.1.id] 2)).drew.heap.size = Bx + 2) := (by show (W9.alloc _).heap.size = _; rw [World.size_alloc, hsz9.out] : _ = _)
      obtain ⟨W10, hW10⟩ : ∃ W, (W9.alloc (.cells #[.int .i64 x.1.id] 2)).drew = W := ⟨_, rfl⟩
      rw [hW10] at hHeld own10 mi10 hB10 hc10 c4' hsz10 ⊢
      clear hW10 hA10 own9 mi9' hB9 c0 c4 c5
      refine step_appI rfl _ _ rfl w1.heap.size pa pc D ((M1.pth O k).take D) rfl own10 W9.heap.size 1 x.1.id rfl hc10 (by omega) (by have := hsz10.out; omega) ?_
      intro g2 cap2 w2 own2 hgrow2 hat2
      have hnb : some Bx ≠ (Value.slice pa D pc).ownBlock := by
        rcases own10.2 with ⟨e1, _⟩ | ⟨g3, cap', cur, e1, _⟩
        · rw [e1]; simp [Value.ownBlock]
        · have e2 := e1
          injection e2 with a1 _ _
          rw [e1]
          intro e
          have e3 : Bx = g3 := by simpa [Value.ownBlock] using e
          exact hBg.out g3 a1 e3.symm
      have blk2 : w2.heap[Bx]? = W10.heap[Bx]? := hgrow2.block Bx (by have := hsz10.out; omega) hnb
      have e0 : w2.cell? ⟨Bx, 0, none⟩ = some (.int .i64 x.1.id) := by
        have : w2.cell? ⟨Bx, 0, none⟩ = W10.cell? ⟨Bx, 0, none⟩ := by simp [World.cell?, blk2]
        rw [this]; exact hHeld.1
      have e5 : w2.cell? ⟨Bx, 5, none⟩ = some (.int .i64 (D : Int)) := by
        have : w2.cell? ⟨Bx, 5, none⟩ = W10.cell? ⟨Bx, 5, none⟩ := by simp [World.cell?, blk2]
        rw [this]; exact hHeld.2
      have e4 : w2.cell? ⟨Bx, 4, none⟩ = some (.int .i64 x.1.en) := by
        have : w2.cell? ⟨Bx, 4, none⟩ = W10.cell? ⟨Bx, 4, none⟩ := by simp [World.cell?, blk2]
        rw [this]; exact c4'
      refine hK.out _ _ ⟨e0, e5⟩ (fun hHeld2 => ?_)
      clear hK K hHeld
      have hHeld := hHeld2
      clear hHeld2
      have hsW2 := hgrow2.size
      have hBw2 : Below w1.heap.size w1 w2 := hB10.grown hgrow2 (by have := hsz10.out; omega) (owns_base own10)
      have hne2 : Hid (∀ g, some (⟨g2, 0, none⟩ : Addr) = some ⟨g, 0, none⟩ → ¬ la = some ⟨g, 0, none⟩) := fun g e => by
        injection e with e; injection e with e _ _
        subst e
        rcases hat2 with h | h
        · rcases own10.2 with ⟨e1, _⟩ | ⟨g3, cap', cur, e1, _⟩
          · rw [e1] at h; simp [Value.ownBlock] at h
          · have e2 := e1
            injection e2 with a1 _ _
            rw [e1] at h
            have e3 : g3 = g2 := by simpa [Value.ownBlock] using h
            rw [← e3]; exact hne.out g3 a1
        · rcases mi10.2.2 with ⟨_, h0⟩ | ⟨g4, h0, _, h5, _⟩
          · rw [h0]; simp
          · rw [h0]; intro e; injection e with e; injection e with e _ _
            have := hsz10.out
            omega
      have mi2 : MI w2 la y lc w1.heap.size w2.heap.size (icell (M1.lng O k).2) := by
        refine ⟨mi10.1, mi10.2.1, ?_⟩
        rcases mi10.2.2 with h0 | ⟨g4, h0, h3, h5, r4⟩
        · exact Or.inl h0
        · refine Or.inr ⟨g4, h0, h3, by have := hsz10.out; omega, r4.blk (hgrow2.block g4 r4.lt ?_)⟩
          rcases own10.2 with ⟨e1, _⟩ | ⟨g3, cap', cur, e1, _⟩
          · rw [e1]; simp [Value.ownBlock]
          · have e2 := e1
            injection e2 with a1 _ _
            rw [e1]
            intro e
            have e3 : g4 = g3 := by simpa [Value.ownBlock] using e
            exact hne.out g3 a1 (by rw [h0, e3])
      have hzD : Hid ((M1.pth O (k + 1)).length = D + 1) := (by rw [HPS.out, List.length_append, List.length_take, hz.out, Nat.min_eq_left hDz]; rfl : _ = _)
      have own3 : w2.ownsRow w1.heap.size 2 1 (.slice (some ⟨g2, 0, none⟩) (D + 1) cap2) (D + 1) (iL (M1.pth O (k + 1))) := by rw [HPS.out]; exact own2
      clear own10 mi10 hB10 hc10 c4' own2 hgrow2 hat2 hnb blk2 hne
      (try simp only [Act.put, List.getElem_toArray, List.getElem_cons_zero, List.getElem_cons_succ, List.setIfInBounds_toArray, List.set_cons_zero, List.set_cons_succ])
      refine wpAnyH_take (i := 9) (v := ?_) rfl (by kernel_rfl) (by kernel_rfl) (by kernel_rfl) (fun _ _ _ h => h) (Or.inl ⟨by rfl, ?_⟩) hHeld ?_
      rotate_left
      · (intro w hSw; (try dsimp only at hSw); go_simp; try (with_reducible rfl))
      (try simp only [Act.put, List.getElem_toArray, List.getElem_cons_zero, List.getElem_cons_succ, List.setIfInBounds_toArray, List.set_cons_zero, List.set_cons_succ])
      refine wpAnyH_done (by kernel_rfl) ?_ _
      clear hHeld
      have hg2l : Bx < w2.heap.size := by have := hsz10.out; omega
      by_cases hc : t < x.1.en
      · rw [if_pos hc] at HLS
        have hcb : decide (x.1.en > t) = true := by simpa using hc
        have HL1 : Hid ((M1.lng O (k + 1)).1 = x.1.en) := (by rw [HLS.out] : _ = _)
        have HL2 : Hid ((M1.lng O (k + 1)).2 = M1.pth O (k + 1)) := (by rw [HLS.out] : _ = _)
        go_wp2_with fail
        refine (cloneI_any _ _ _ _ _ _ _ hzD (MI.of_owns hzD.out own3) (by omega)).mono ?_
        rintro e w5 ⟨⟨a5, c5, rfl, mi5⟩, hb5⟩
        have own5 := owns_below own3 hb5
        have hs5 := hb5.size
        have hB5 := hBw2.trans (hb5.mono hBw2.size)
        have hsw1 := hBw2.size
        have hne5 : Hid (∀ g, some (⟨g2, 0, none⟩ : Addr) = some ⟨g, 0, none⟩ → ¬ a5 = some ⟨g, 0, none⟩) := fun g e => by
          injection e with e; injection e with e _ _
          subst e
          have hg2 : g2 < w2.heap.size := by
            rcases own3.2 with ⟨e1, _⟩ | ⟨g3, cap', cur, e1, _, hh, _⟩
            · cases e1
            · injection e1 with a1 _ _; injection a1 with a1; injection a1 with a1 _ _
              rw [a1]; exact (Array.getElem?_eq_some_iff.1 hh).1
          rcases mi5.2.2 with ⟨_, h0⟩ | ⟨g4, h0, h5, _⟩
          · rw [h0]; simp
          · rw [h0]; intro e; injection e with e; injection e with e _ _; omega
        clear hb5 own3
        go_wp2_with fail
        exact ⟨⟨k + 1, x.1.en, some ⟨g2, 0, none⟩, D + 1, cap2, a5, D + 1, c5, by omega, by go_num, rfl, rfl, rfl, HL1, hzD, (by rw [HL2.out]; exact hzD.out : _ = _), own5, by rw [HL2.out]; exact mi5.wide hsw1 (Nat.le_refl _), hne5, hB5⟩, by simp [intOf]; omega⟩
      · rw [if_neg hc] at HLS
        have hcb : decide (x.1.en > t) = false := by simpa using hc
        have HL1 : Hid ((M1.lng O (k + 1)).1 = t) := (by rw [HLS.out]; exact ht.out : _ = _)
        go_wp2_with fail
        exact ⟨⟨k + 1, t, some ⟨g2, 0, none⟩, D + 1, cap2, la, y, lc, by omega, by go_num, rfl, rfl, rfl, HL1, hzD, (by rw [HLS.out]; exact hy.out : _ = _), own3, by rw [HLS.out]; exact mi2, hne2, hBw2⟩, by simp [intOf]; omega⟩
    · have hkq : k = q := by omega
      have HE : Hid (M1.lngs us tr = (M1.lng O k).2) := (by rw [HL.out, hkq] : _ = _)
      have hBf := hb1.trans (hB.mono hs1)
      clear hkq
      go_wp2_with fail
      go_ret
      refine ⟨⟨la, lc, ?_, ?_⟩, hBf⟩
      · rw [HE.out, hy.out]; rfl
      · rw [HE.out, hy.out]; exact mi.wide hs1 (Nat.le_refl _)
end Go.Proofs.Ytdpeopmbboogaaa
