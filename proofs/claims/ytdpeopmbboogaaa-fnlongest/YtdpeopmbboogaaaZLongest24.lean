/-
  The contract of the model's l4Spans.
-/
import Derived.Test.YtdpeopmbboogaaaZLongest22
import Derived.Test.YtdpeopmbboogaaaZLongest23
import Derived.Test.YtdpeopmbboogaaaZLongest07
namespace Go.Proofs.Ytdpeopmbboogaaa
open Go.ChangeShapes Go.WideShapes Go.ChangeAt Go.RowKit
set_option linter.unusedSimpArgs false
set_option linter.unusedVariables false

theorem up_take {us : List M1.Upd} {k i : Nat} (h : i < k) : M1.up (us.take k) i = M1.up us i := by
  simp [M1.up, List.getD, List.getElem?_take, h]
theorem up_drop {us : List M1.Upd} {k i : Nat} : M1.up (us.drop k) i = M1.up us (k + i) := by
  simp [M1.up, List.getD, List.getElem?_drop]
theorem sub_take {w : World} {b c n k : Nat} {us : List M1.Upd} (h : IsUpds w (some ⟨b, 0, none⟩) n c us) (hk : k ≤ n) : IsUpds w (some ⟨b, 0, none⟩) k c (us.take k) := by
  refine ⟨by have := h.hlen; simp; omega, by have := h.hcap; omega, h.hmost, fun i hi => by rw [up_take hi]; exact h.htxt i (by omega), ?_⟩
  rcases h.hlies with h0 | ⟨b', off', e, hlt, hc⟩
  · exact Or.inl (by omega)
  · refine Or.inr ⟨b', off', e, hlt, fun i hi => ?_⟩
    rw [up_take hi]; exact hc i (by omega)
theorem sub_drop {w : World} {b c n k : Nat} {us : List M1.Upd} (h : IsUpds w (some ⟨b, 0, none⟩) n c us) (hk : k < n) : IsUpds w (some ⟨b, k * 13, none⟩) (n - k) (c - k) (us.drop k) := by
  refine ⟨by have := h.hlen; simp; omega, by have := h.hcap; omega, by have := h.hmost; omega, fun i hi => by rw [up_drop]; exact h.htxt (k + i) (by omega), ?_⟩
  rcases h.hlies with h0 | ⟨b', off', e, hlt, hc⟩
  · exact Or.inl (by omega)
  · injection e with e; injection e with e1 e2
    subst e1; subst e2
    refine Or.inr ⟨b, k * 13, rfl, hlt, fun i hi => ?_⟩
    have := hc (k + i) (by omega)
    rw [up_drop]
    have e3 : 0 + (k + i) * 13 = k * 13 + i * 13 := by omega
    rw [e3] at this
    exact this

theorem MU.widS {w : World} {av : Option Addr} {n cap lo hi lo' hi' : Nat} {f : Nat → Value} (h : MU w av n cap lo hi f) (h1 : lo' ≤ lo) (h2 : hi ≤ hi') : MU w av n cap lo' hi' f :=
  ⟨h.1, h.2.1, h.2.2.imp id fun ⟨g, e, h3, h4, r⟩ => ⟨g, e, by omega, by omega, r⟩⟩

theorem up_set {bs : List M1.Upd} {q : Nat} {u : M1.Upd} (i : Nat) (hq : q < bs.length) : M1.up (bs.set q u) i = if i = q then u else M1.up bs i := by
  unfold M1.up
  by_cases e : i = q
  · subst e; simp [List.getD, hq]
  · rw [if_neg e]
    have : ¬ q = i := fun h => e h.symm
    simp [List.getD, List.getElem?_set, this]
theorem row_put {w : World} {g m q : Nat} {bs : List M1.Upd} {u : M1.Upd} {v0 v1 v2 v3 v4 v5 v6 v7 v8 v9 v10 v11 v12 : Value} (h : RowAt w g (m * 13) (ucell bs)) (hl : bs.length = m) (hq : q < m) (hv : [v0, v1, v2, v3, v4, v5, v6, v7, v8, v9, v10, v11, v12] = ucs u) :
    RowAt (((((((((((((w.setCell ⟨g, q * 13, none⟩ (v0)).setCell ⟨g, q * 13 + 1, none⟩ (v1)).setCell ⟨g, q * 13 + 2, none⟩ (v2)).setCell ⟨g, q * 13 + 3, none⟩ (v3)).setCell ⟨g, q * 13 + 4, none⟩ (v4)).setCell ⟨g, q * 13 + 5, none⟩ (v5)).setCell ⟨g, q * 13 + 6, none⟩ (v6)).setCell ⟨g, q * 13 + 7, none⟩ (v7)).setCell ⟨g, q * 13 + 8, none⟩ (v8)).setCell ⟨g, q * 13 + 9, none⟩ (v9)).setCell ⟨g, q * 13 + 10, none⟩ (v10)).setCell ⟨g, q * 13 + 11, none⟩ (v11)).setCell ⟨g, q * 13 + 12, none⟩ (v12)) g (m * 13) (ucell (bs.set q u)) ∧ Gr g w (((((((((((((w.setCell ⟨g, q * 13, none⟩ (v0)).setCell ⟨g, q * 13 + 1, none⟩ (v1)).setCell ⟨g, q * 13 + 2, none⟩ (v2)).setCell ⟨g, q * 13 + 3, none⟩ (v3)).setCell ⟨g, q * 13 + 4, none⟩ (v4)).setCell ⟨g, q * 13 + 5, none⟩ (v5)).setCell ⟨g, q * 13 + 6, none⟩ (v6)).setCell ⟨g, q * 13 + 7, none⟩ (v7)).setCell ⟨g, q * 13 + 8, none⟩ (v8)).setCell ⟨g, q * 13 + 9, none⟩ (v9)).setCell ⟨g, q * 13 + 10, none⟩ (v10)).setCell ⟨g, q * 13 + 11, none⟩ (v11)).setCell ⟨g, q * 13 + 12, none⟩ (v12)) := by
  refine ⟨RowAt.same (((((((((((((h.set (o := q * 13) (by omega) v0).set (o := q * 13 + 1) (by omega) v1).set (o := q * 13 + 2) (by omega) v2).set (o := q * 13 + 3) (by omega) v3).set (o := q * 13 + 4) (by omega) v4).set (o := q * 13 + 5) (by omega) v5).set (o := q * 13 + 6) (by omega) v6).set (o := q * 13 + 7) (by omega) v7).set (o := q * 13 + 8) (by omega) v8).set (o := q * 13 + 9) (by omega) v9).set (o := q * 13 + 10) (by omega) v10).set (o := q * 13 + 11) (by omega) v11).set (o := q * 13 + 12) (by omega) v12) fun o ho => ?_, (gr_set (gr_set (gr_set (gr_set (gr_set (gr_set (gr_set (gr_set (gr_set (gr_set (gr_set (gr_set (gr_set (gr_refl g w) (q * 13) v0) (q * 13 + 1) v1) (q * 13 + 2) v2) (q * 13 + 3) v3) (q * 13 + 4) v4) (q * 13 + 5) v5) (q * 13 + 6) v6) (q * 13 + 7) v7) (q * 13 + 8) v8) (q * 13 + 9) v9) (q * 13 + 10) v10) (q * 13 + 11) v11) (q * 13 + 12) v12)⟩
  obtain ⟨i, j, hj, rfl⟩ : ∃ i j, j < 13 ∧ o = i * 13 + j := ⟨o / 13, o % 13, by omega, by omega⟩
  rw [ucell_at (bs.set q u) i j hj, up_set i (by omega)]
  by_cases e : i = q
  · subst e
    rw [if_pos rfl, ← hv]
    have hj' : j = 0 ∨ j = 1 ∨ j = 2 ∨ j = 3 ∨ j = 4 ∨ j = 5 ∨ j = 6 ∨ j = 7 ∨ j = 8 ∨ j = 9 ∨ j = 10 ∨ j = 11 ∨ j = 12 := by omega
    rcases hj' with rfl | rfl | rfl | rfl | rfl | rfl | rfl | rfl | rfl | rfl | rfl | rfl | rfl <;> simp
  · rw [if_neg e, ← ucell_at bs i j hj]
    have hne : ∀ x, x < 13 → ¬ i * 13 + j = q * 13 + x := fun x hx he => e (by omega)
    have h0 : ¬ i * 13 + j = q * 13 := hne 0 (by omega)
    simp only [if_neg (hne 12 (by omega)), if_neg (hne 11 (by omega)), if_neg (hne 10 (by omega)), if_neg (hne 9 (by omega)), if_neg (hne 8 (by omega)), if_neg (hne 7 (by omega)), if_neg (hne 6 (by omega)), if_neg (hne 5 (by omega)), if_neg (hne 4 (by omega)), if_neg (hne 3 (by omega)), if_neg (hne 2 (by omega)), if_neg (hne 1 (by omega)), if_neg h0]

theorem up_inS {us : List M1.Upd} {i : Nat} (h : i < us.length) : M1.up us i ∈ us := by
  have : M1.up us i = us[i] := by simp [M1.up, List.getD, h]
  rw [this]; exact List.getElem_mem h
theorem one_upds (w : World) (cs : Array Value) (u : M1.Upd) (h : cs = (ucs u).toArray) (hs : u.s.size ≤ maxLen) (t : TypeId) : IsUpds (w.alloc (.cells cs t)) (some ⟨w.heap.size, 0, none⟩) 1 1 [u] := by
  refine isUpds_of_row rfl (Nat.le_refl _) (by unfold maxLen; omega) (fun i hi => ?_) ?_
  · have e : i = 0 := by omega
    subst e; exact hs
  · subst h
    refine (RowAt.new w (ucs u).toArray t).same fun o ho => ?_
    have ho' : o < 13 := ho
    have := ucell_at [u] 0 o ho'
    rw [Nat.zero_mul, Nat.zero_add] at this
    rw [this]
    simp [M1.up]

theorem nil_upds (w : World) (yv : Option Addr) (c : Nat) (hc : c ≤ maxLen) : IsUpds w yv 0 c [] := ⟨rfl, Nat.zero_le _, hc, fun _ hi => absurd hi (Nat.not_lt_zero _), Or.inl rfl⟩
def sL (us : List M1.Upd) : List Value := us.flatMap scs
theorem sL_snoc (us : List M1.Upd) (u : M1.Upd) : sL (us ++ [u]) = sL us ++ scs u := by simp [sL]
theorem sL_get : ∀ (us : List M1.Upd) (o : Nat), o < us.length * 5 → (sL us).getD o undef = scell us o
  | [], o, h => by simp at h
  | d :: r, o, h => by
    have e0 : sL (d :: r) = scs d ++ sL r := rfl
    have hl : (scs d).length = 5 := rfl
    by_cases c : o < 5
    · have e1 : (sL (d :: r)).getD o undef = (scs d).getD o undef := by
        rw [e0, List.getD_eq_getElem?_getD, List.getElem?_append_left (by omega), ← List.getD_eq_getElem?_getD]
      rw [e1]
      have := scell_at (d :: r) 0 o c
      rw [Nat.zero_mul, Nat.zero_add] at this
      rw [this]; rfl
    · have ih := sL_get r (o - 5) (by simp at h; omega)
      have e1 : (sL (d :: r)).getD o undef = (sL r).getD (o - 5) undef := by
        rw [e0, List.getD_eq_getElem?_getD, List.getElem?_append_right (by omega), ← List.getD_eq_getElem?_getD, hl]
      rw [e1, ih]
      unfold scell
      rw [show o / 5 = (o - 5) / 5 + 1 by omega, show (o - 5) % 5 = o % 5 by omega]
      rfl
theorem MG.of_ownsS {w : World} {base n : Nat} {e : TypeId} {av : Option Addr} {cap : Nat} {us : List M1.Upd} (hl : us.length = n) (h : w.ownsRow base e 5 (.slice av n cap) n (sL us)) : MG w av n cap base w.heap.size (scell us) := by
  have h0 := h
  obtain ⟨h1, h2⟩ := h
  rcases h2 with ⟨e1, h3⟩ | ⟨g, cap', cur, e1, hg, hh, hn, hm, hs, ht⟩
  · injection e1 with a1 a2 a3; subst a1; subst a3
    exact ⟨by omega, by unfold maxLen; omega, Or.inl ⟨h3, rfl⟩⟩
  · injection e1 with a1 a2 a3; subst a1; subst a3
    have hr := (RowAt.of_owns h0).same fun o ho => sL_get us o (by rw [hl]; exact ho)
    exact ⟨hn, hm, Or.inr ⟨g, rfl, hg, hr.lt, hr⟩⟩
theorem infoS0 : (Try.prog.info? 34).map (fun i => (i.zero, i.size, i.bytes)) = some (some (.agg #[.int .i64 0, .int .i64 0, .string ByteArray.empty, .int .i64 0, .int .i64 0]), 5, 48) := by kernel_rfl
theorem infoS : ∃ i, Try.prog.info? 34 = some i ∧ i.zero = some (.agg #[.int .i64 0, .int .i64 0, .string ByteArray.empty, .int .i64 0, .int .i64 0]) ∧ i.size = 5 ∧ i.bytes = 48 := by
  have h := infoS0
  cases e : Try.prog.info? 34 with
  | none => rw [e] at h; cases h
  | some i => rw [e] at h; simp at h; exact ⟨i, rfl, h.1, h.2.1, h.2.2⟩
theorem newsS (w : World) (x0 x1 x2 x3 x4 : Value) (t : TypeId) : ∀ j u, [x0, x1, x2, x3, x4][j]? = some u → (w.alloc (.cells #[x0, x1, x2, x3, x4] t)).cell? ((⟨w.heap.size, 0, none⟩ : Addr).add j) = some u := by
  intro j u hu
  match j, hu with
  | 0, hu => simp at hu; subst hu; simp [Addr.add]
  | 1, hu => simp at hu; subst hu; simp [Addr.add]
  | 2, hu => simp at hu; subst hu; simp [Addr.add]
  | 3, hu => simp at hu; subst hu; simp [Addr.add]
  | 4, hu => simp at hu; subst hu; simp [Addr.add]
  | j + 5, hu => simp at hu
theorem oneSc (u : M1.Upd) : ∀ v ∈ scs u, v.oneCell' = true := by
  intro v hv
  simp [scs] at hv
  rcases hv with rfl | rfl | rfl | rfl | rfl <;> rfl
theorem ownsS_empty (w : World) (e : TypeId) : (w.alloc (.cells #[] e)).ownsRow w.heap.size e 5 (.slice (some ⟨w.heap.size, 0, none⟩) 0 0) 0 (sL []) := by
  refine ⟨rfl, Or.inr ⟨w.heap.size, 0, #[], rfl, Nat.le_refl _, ?_, Nat.le_refl _, by unfold maxLen; omega, rfl, rfl⟩⟩
  show (w.heap.push (.cells #[] e))[w.heap.size]? = _
  simp

/-- The box of an update. -/
abbrev ubx (u : M1.Upd) : Obj := .cells #[.int .i64 u.dr, .int .i64 u.dn, .int .i64 u.sw, .int .i64 u.sc, .int .i64 u.sr, .int .i64 u.k, .int .i64 u.tr, .int .i64 u.id, .int .i64 u.pa, .string u.s, .int .i64 u.st, .int .i64 u.en, .int .i64 u.lv] 63

set_option maxHeartbeats 16000000 in
set_option maxRecDepth 100000 in
theorem l4Spans_any (av : Option Addr) (n cn : Nat) (us : List M1.Upd) (tr : Int) (w : World) (h1 : IsUpds w av n cn us) (hn : n ≤ 1000) :
    Calls Try.prog 35 #[.slice av n cn, .int .i64 tr] w fun e w' => (∃ a c, e = .returned (.slice a (M1.spTo us tr n).length c) ∧ MG w' a (M1.spTo us tr n).length c w.heap.size w'.heap.size (scell (M1.spTo us tr n))) ∧ Below w.heap.size w w' := by
  have hl1 : Hid (us.length = n) := h1.hlen
  have hm1 := h1.hcap
  have hm2 := h1.hmost
  unfold maxLen at hm2
  go_enter Try.func35, Try.ntmps35
  go_wp2_with fail
  have own0 := ownsU_empty w 63
  obtain ⟨a0, c0, he, mu0⟩ := MU.of_owns own0
  injection he with e1 e2 e3
  (try clear e2)
  subst e1
  subst e3
  have hA : Below w.heap.size w (w.alloc (.cells #[] 63)) := (Below.refl _ _).alloc (Nat.le_refl _) _
  obtain ⟨W0, hW0⟩ : ∃ W, W = (w.alloc (.cells #[] 63)) := ⟨_, rfl⟩
  rw [← hW0] at hA mu0 ⊢
  clear hW0 own0
  go_loopw [5, 6] (fun v i wr => ∃ (k m : Nat) (a : Option Addr) (c : Nat), (∃ g, a = some ⟨g, 0, none⟩) ∧ k ≤ n ∧ i = .int .i64 k ∧ Hid ((M1.spTo us tr k).length = m) ∧ m ≤ k ∧ v = .slice a m c ∧ MU wr a m c w.heap.size wr.heap.size (ucell (M1.spTo us tr k)) ∧ Below w.heap.size w wr) (fun _ i _ => n - (intOf i).toNat)
  case atStart => exact ⟨0, 0, _, _, ⟨_, rfl⟩, Nat.zero_le _, rfl, (rfl : (M1.spTo us tr 0).length = 0), Nat.le_refl _, rfl, mu0, hA⟩
  case round =>
    clear mu0 hA
    obtain ⟨k, m, a, c, hsome, hk, rfl, hbm, hmk, rfl, hmu, hB⟩ := hrel
    obtain ⟨bs, hbs⟩ : ∃ bs, Hid (M1.spTo us tr k = bs) := ⟨_, rfl⟩
    rw [hbs.out] at hmu hbm
    have HTB : Hid (∀ i, i < m → (M1.up bs i).s.size ≤ maxLen) := fun i hi => by
      have hin : M1.up bs i ∈ M1.spTo us tr k := by rw [hbs.out]; exact up_inS (by rw [hbm.out]; exact hi)
      obtain ⟨j, hj, e⟩ := M1.spTo_mem hin
      rw [e]; exact h1.htxt j (by omega)
    have hmu1 := hmu.1
    have hmu2 := hmu.2.1
    unfold maxLen at hmu2
    have hsz := hB.size
    by_cases hlt : k < n
    · have g1 := h1.below hB
      rcases g1.hlies with h0 | ⟨b, off, rfl, hb, hc⟩
      · omega
      obtain ⟨c0, c1, c2, c3, c4, c5, c6, c7, c8, c9, c10, c11, c12⟩ := hc k hlt
      have i0 : (0 : Int) ≤ (k : Int) := by omega
      have i1 : (k : Int) < (n : Int) := by omega
      obtain ⟨u, hu⟩ : ∃ u, Hid (M1.up us k = u) := ⟨_, rfl⟩
      rw [hu.out] at c0 c1 c2 c3 c4 c5 c6 c7 c8 c9 c10 c11 c12
      clear hc g1
      by_cases hq : u.k = 1 ∧ u.tr = tr
      · have HE : Hid (M1.spTo us tr (k + 1) = M1.putS bs u) := (by simp [M1.spTo, hu.out, hq, hbs.out] : M1.spTo us tr (k + 1) = M1.putS bs u)
        obtain ⟨hq1, hq2⟩ := hq
        rw [hq1] at c5
        rw [hq2] at c6
        have HU : Hid ((#[.int .i64 u.dr, .int .i64 u.dn, .int .i64 u.sw, .int .i64 u.sc, .int .i64 u.sr, .int .i64 1, .int .i64 tr, .int .i64 u.id, .int .i64 u.pa, .string u.s, .int .i64 u.st, .int .i64 u.en, .int .i64 u.lv] : Array Value) = (ucs u).toArray) := (by unfold ucs; rw [hq1, hq2] : (#[.int .i64 u.dr, .int .i64 u.dn, .int .i64 u.sw, .int .i64 u.sc, .int .i64 u.sr, .int .i64 1, .int .i64 tr, .int .i64 u.id, .int .i64 u.pa, .string u.s, .int .i64 u.st, .int .i64 u.en, .int .i64 u.lv] : Array Value) = (ucs u).toArray)
        clear hq1 hq2
        obtain ⟨Wr, hWr⟩ : ∃ W, W = wr := ⟨_, rfl⟩
        subst hWr
        go_wp2_with fail
        obtain ⟨W1, hW1⟩ : ∃ W, W = (Wr.alloc (.cells #[.int .i64 u.dr, .int .i64 u.dn, .int .i64 u.sw, .int .i64 u.sc, .int .i64 u.sr, .int .i64 1, .int .i64 tr, .int .i64 u.id, .int .i64 u.pa, .string u.s, .int .i64 u.st, .int .i64 u.en, .int .i64 u.lv] 63)) := ⟨_, rfl⟩
        have bb1 : Below Wr.heap.size Wr W1 := by rw [hW1]; exact (Below.refl _ _).alloc (Nat.le_refl _) _
        have bx1 : RowAt W1 Wr.heap.size 13 (fun o => (#[.int .i64 u.dr, .int .i64 u.dn, .int .i64 u.sw, .int .i64 u.sc, .int .i64 u.sr, .int .i64 1, .int .i64 tr, .int .i64 u.id, .int .i64 u.pa, .string u.s, .int .i64 u.st, .int .i64 u.en, .int .i64 u.lv] : Array Value).getD o undef) := by rw [hW1]; exact RowAt.new Wr _ _
        have hz1 : W1.heap.size = Wr.heap.size + 1 := by rw [hW1]; simp
        rw [← hW1]
        clear hW1
        have mu1 := hmu.below bb1
        have B1 := hB.trans (bb1.mono hB.size)
        clear hmu hB bb1 c0 c1 c2 c3 c4 c5 c6 c7 c8 c9 c10 c11 c12
        go_loopw [8] (fun i wr => ∃ q : Nat, q ≤ m ∧ i = .int .i64 q ∧ Hid (∀ j, j < q → (M1.up bs j).id < u.id) ∧ Below W1.heap.size W1 wr) (fun i _ => m - (intOf i).toNat)
        case atStart => exact ⟨0, Nat.zero_le _, rfl, fun j hj => absurd hj (Nat.not_lt_zero _), Below.refl _ _⟩
        case round =>
          obtain ⟨q, hqm, rfl, hall, hB2⟩ := hrel
          have mu2 := mu1.below hB2
          have bx2 := bx1.below hB2
          have bxl := bx2.lt
          have b7 := bx2.cell (o := 7) (by omega)
          simp only [show (#[.int .i64 u.dr, .int .i64 u.dn, .int .i64 u.sw, .int .i64 u.sc, .int .i64 u.sr, .int .i64 1, .int .i64 tr, .int .i64 u.id, .int .i64 u.pa, .string u.s, .int .i64 u.st, .int .i64 u.en, .int .i64 u.lv] : Array Value).getD 7 undef = .int .i64 u.id from rfl] at b7
          by_cases hqlt : q < m
          · rcases mu2.2.2 with ⟨h0, _⟩ | ⟨g, rfl, hglo, hghi, rg⟩
            · omega
            have hgl := rg.lt
            have j0 : (0 : Int) ≤ (q : Int) := by omega
            have j1 : (q : Int) < (m : Int) := by omega
            have hkb : decide ((q : Int) < (m : Int)) = true := decide_eq_true j1
            have d7 := rg.cell (o := q * 13 + 7) (by omega)
            rw [ucell_at bs q 7 (by omega)] at d7
            have d7' : wr.cell? ⟨g, q * 13 + 7, none⟩ = some (.int .i64 (M1.up bs q).id) := d7
            clear d7
            obtain ⟨y, hy⟩ : ∃ y, Hid ((M1.up bs q).id = y) := ⟨_, rfl⟩
            rw [hy.out] at d7'
            by_cases hid : y < u.id
            · have HQ : Hid (∀ j, j < q + 1 → (M1.up bs j).id < u.id) := fun j hj => by
                by_cases e : j = q
                · rw [e, hy.out]; exact hid
                · exact hall.out j (by omega)
              have hidb : decide (y < u.id) = true := decide_eq_true hid
              go_wp2_with fail
              go_region_held3 (fun w' => Kp wr w') (first | exact kp_zero _ | exact kp_drew (by assumption) | exact kp_step (by assumption) (by assumption)) (fail)
              rename_i hK
              have hB3 := hB2.trans (hK.1.mono hB2.size)
              go_wp2_with fail
              exact ⟨⟨q + 1, by omega, by go_num, HQ, hB3⟩, by simp [intOf]; omega⟩
            · have hidb : decide (y < u.id) = false := decide_eq_false hid
              go_wp2_with fail
              go_region_held3 (fun w' => Kp wr w') (first | exact kp_zero _ | exact kp_drew (by assumption) | exact kp_step (by assumption) (by assumption)) (fail)
              rename_i hK
              have hB3 := hB2.trans (hK.1.mono hB2.size)
              clear hK d7' b7 bxl hgl rg mu2 bx2 hglo hghi
              generalize wr.drew = W3 at hB3 ⊢
              have bx3 := bx1.below hB3
              have bxl := bx3.lt
              have b7 := bx3.cell (o := 7) (by omega)
              simp only [show (#[.int .i64 u.dr, .int .i64 u.dn, .int .i64 u.sw, .int .i64 u.sc, .int .i64 u.sr, .int .i64 1, .int .i64 tr, .int .i64 u.id, .int .i64 u.pa, .string u.s, .int .i64 u.st, .int .i64 u.en, .int .i64 u.lv] : Array Value).getD 7 undef = .int .i64 u.id from rfl] at b7
              rcases (mu1.below hB3).2.2 with ⟨h0, _⟩ | ⟨g', eg, hglo, hghi, rg⟩
              · omega
              injection eg with eg
              injection eg with eg
              subst eg
              have hgl := rg.lt
              have d7 := rg.cell (o := q * 13 + 7) (by omega)
              rw [ucell_at bs q 7 (by omega)] at d7
              have d7' : W3.cell? ⟨g, q * 13 + 7, none⟩ = some (.int .i64 (M1.up bs q).id) := d7
              clear d7
              rw [hy.out] at d7'
              by_cases heq : y = u.id
              · have heqb : (y == u.id) = true := by simp [heq]
                have HEQ : Hid (y = u.id) := heq
                clear heq
                go_wp2_with fail
                go_region_held3 (fun w' => Kp W3 w') (first | exact kp_zero _ | exact kp_drew (by assumption) | exact kp_step (by assumption) (by assumption)) (fail)
                rename_i hK3
                have hB4 := hB3.trans (hK3.1.mono hB3.size)
                clear hK3 d7' b7 bxl hgl rg bx3 hglo hghi
                generalize W3.drew = W4 at hB4 ⊢
                have bx4 := bx1.below hB4
                have bxl := bx4.lt
                have b2 := bx4.cell (o := 2) (by omega)
                simp only [show (#[.int .i64 u.dr, .int .i64 u.dn, .int .i64 u.sw, .int .i64 u.sc, .int .i64 u.sr, .int .i64 1, .int .i64 tr, .int .i64 u.id, .int .i64 u.pa, .string u.s, .int .i64 u.st, .int .i64 u.en, .int .i64 u.lv] : Array Value).getD 2 undef = .int .i64 u.sw from rfl] at b2
                have b3 := bx4.cell (o := 3) (by omega)
                simp only [show (#[.int .i64 u.dr, .int .i64 u.dn, .int .i64 u.sw, .int .i64 u.sc, .int .i64 u.sr, .int .i64 1, .int .i64 tr, .int .i64 u.id, .int .i64 u.pa, .string u.s, .int .i64 u.st, .int .i64 u.en, .int .i64 u.lv] : Array Value).getD 3 undef = .int .i64 u.sc from rfl] at b3
                have b4 := bx4.cell (o := 4) (by omega)
                simp only [show (#[.int .i64 u.dr, .int .i64 u.dn, .int .i64 u.sw, .int .i64 u.sc, .int .i64 u.sr, .int .i64 1, .int .i64 tr, .int .i64 u.id, .int .i64 u.pa, .string u.s, .int .i64 u.st, .int .i64 u.en, .int .i64 u.lv] : Array Value).getD 4 undef = .int .i64 u.sr from rfl] at b4
                rcases (mu1.below hB4).2.2 with ⟨h0, _⟩ | ⟨g', eg, hglo, hghi, rg⟩
                · omega
                injection eg with eg
                injection eg with eg
                subst eg
                have hgl := rg.lt
                have d2 : W4.cell? ⟨g, q * 13 + 2, none⟩ = some (.int .i64 (M1.up bs q).sw) := by rw [rg.cell (o := q * 13 + 2) (by omega), ucell_at bs q 2 (by omega)]; rfl
                have d3 : W4.cell? ⟨g, q * 13 + 2 + 1, none⟩ = some (.int .i64 (M1.up bs q).sc) := by rw [rg.cell (o := q * 13 + 3) (by omega), ucell_at bs q 3 (by omega)]; rfl
                have d4 : W4.cell? ⟨g, q * 13 + 2 + 2, none⟩ = some (.int .i64 (M1.up bs q).sr) := by rw [rg.cell (o := q * 13 + 4) (by omega), ucell_at bs q 4 (by omega)]; rfl
                obtain ⟨sa, hsa⟩ : ∃ b, Hid (M1.aheadB (M1.up bs q).sw (M1.up bs q).sc (M1.up bs q).sr u.sw u.sc u.sr = b) := ⟨_, rfl⟩
                go_wp2_with fail
                refine wp_region_held_drew (S := fun w' => Kp W4 w') (by kernel_rfl) ?_ (fun hHeld => ?_)
                · exact kp_zero _
                refine wpAnyH_take (i := 0) (v := ?_) rfl (by kernel_rfl) (by kernel_rfl) (by kernel_rfl) (fun _ _ _ h => h) (Or.inl ⟨by rfl, ?_⟩) hHeld ?_
                rotate_left
                · (intro w hSw; (try dsimp only at hSw); go_simp; try (with_reducible rfl))
                (try simp only [Act.put, List.getElem_toArray, List.getElem_cons_zero, List.getElem_cons_succ, List.setIfInBounds_toArray, List.set_cons_zero, List.set_cons_succ])
                refine wpAnyH_take (i := 1) (v := ?_) rfl (by kernel_rfl) (by kernel_rfl) (by kernel_rfl) (fun _ _ _ h => h) (Or.inl ⟨by rfl, ?_⟩) hHeld ?_
                rotate_left
                · (intro w hSw; (try dsimp only at hSw); go_simp; try (with_reducible rfl))
                (try simp only [Act.put, List.getElem_toArray, List.getElem_cons_zero, List.getElem_cons_succ, List.setIfInBounds_toArray, List.set_cons_zero, List.set_cons_succ])
                refine wpAnyH_take (i := 2) (v := ?_) rfl (by kernel_rfl) (by kernel_rfl) (by kernel_rfl) (fun _ _ _ h => h) (Or.inl ⟨by rfl, ?_⟩) hHeld ?_
                rotate_left
                · (intro w hSw; (try dsimp only at hSw); go_simp; try (with_reducible rfl))
                (try simp only [Act.put, List.getElem_toArray, List.getElem_cons_zero, List.getElem_cons_succ, List.setIfInBounds_toArray, List.set_cons_zero, List.set_cons_succ])
                refine wpAnyH_take (i := 3) (v := ?_) rfl (by kernel_rfl) (by kernel_rfl) (by kernel_rfl) (fun _ _ _ h => h) (Or.inl ⟨by rfl, ?_⟩) hHeld ?_
                rotate_left
                · (intro w hSw; (try dsimp only at hSw); go_simp; try (with_reducible rfl))
                (try simp only [Act.put, List.getElem_toArray, List.getElem_cons_zero, List.getElem_cons_succ, List.setIfInBounds_toArray, List.set_cons_zero, List.set_cons_succ])
                refine wpAnyH_take (i := 4) (v := ?_) rfl (by kernel_rfl) (by kernel_rfl) (by kernel_rfl) (fun _ _ _ h => h) (Or.inl ⟨by rfl, ?_⟩) hHeld ?_
                rotate_left
                · (intro w hSw; (try dsimp only at hSw); go_simp; try (with_reducible rfl))
                (try simp only [Act.put, List.getElem_toArray, List.getElem_cons_zero, List.getElem_cons_succ, List.setIfInBounds_toArray, List.set_cons_zero, List.set_cons_succ])
                refine wpAnyH_take (i := 5) (v := ?_) rfl (by kernel_rfl) (by kernel_rfl) (by kernel_rfl) (fun _ _ _ h => h) (Or.inl ⟨by rfl, ?_⟩) hHeld ?_
                rotate_left
                · (intro w hSw; (try dsimp only at hSw); go_simp; try (with_reducible rfl))
                (try simp only [Act.put, List.getElem_toArray, List.getElem_cons_zero, List.getElem_cons_succ, List.setIfInBounds_toArray, List.set_cons_zero, List.set_cons_succ])
                refine wpAnyH_take (i := 6) (v := ?_) rfl (by kernel_rfl) (by kernel_rfl) (by kernel_rfl) (fun _ _ _ h => h) (Or.inl ⟨by rfl, ?_⟩) hHeld ?_
                rotate_left
                · (intro w hSw; (try dsimp only at hSw); go_simp; try (with_reducible rfl))
                (try simp only [Act.put, List.getElem_toArray, List.getElem_cons_zero, List.getElem_cons_succ, List.setIfInBounds_toArray, List.set_cons_zero, List.set_cons_succ])
                refine wpAnyH_ready (rs := [7]) (by kernel_rfl) (by simp) ?_
                refine AllReadyH.cons (o := _) rfl (fun K hK => ?_) AllReadyH.nil
                go_simp
                (refine (ahead_spec _ _ _ _ _ _ _).mono ?_; rw [hsa.out]; rintro e w8 ⟨rfl, hb8⟩; go_wp2_with fail)
                refine hK.out _ _ ?_ (fun hHeld2 => ?_)
                · exact kp_step hHeld hb8
                clear hK K hHeld
                have hHeld := hHeld2
                clear hHeld2
                (try simp only [Act.put, List.getElem_toArray, List.getElem_cons_zero, List.getElem_cons_succ, List.setIfInBounds_toArray, List.set_cons_zero, List.set_cons_succ])
                refine wpAnyH_done (by kernel_rfl) ?_ _
                have hB5 := hB4.trans (hHeld.1.mono hB4.size)
                clear hHeld b2 b3 b4 d2 d3 d4 bxl hgl rg bx4 hglo hghi
                cases sa with
                | false =>
                  have HE2 : Hid (M1.spTo us tr (k + 1) = bs) := (by
                    rw [HE.out]
                    exact (M1.putB_is ⟨q, by rw [hbm.out]; exact hqm, hall.out, Or.inl ⟨by rw [hbm.out]; exact hqlt, by rw [hy.out]; exact HEQ.out, by rw [if_neg (by show ¬ M1.aheadB _ _ _ _ _ _ = true; rw [hsa.out]; simp)]⟩⟩).symm : M1.spTo us tr (k + 1) = bs)
                  have m5 := mu1.below hB5
                  have hs5 := hB5.size
                  have B5 := B1.trans (hB5.mono B1.size)
                  go_wp2_with fail
                  exact ⟨⟨k + 1, m, _, c, ⟨_, rfl⟩, by omega, by go_num, (by rw [HE2.out]; exact hbm.out : (M1.spTo us tr (k + 1)).length = m), by omega, rfl, by rw [HE2.out]; exact m5.widS (Nat.le_refl _) (by omega), B5⟩, by simp [intOf]; omega⟩
                | true =>
                  have HE2 : Hid (M1.spTo us tr (k + 1) = bs.set q u) := (by
                    rw [HE.out]
                    exact (M1.putB_is ⟨q, by rw [hbm.out]; exact hqm, hall.out, Or.inl ⟨by rw [hbm.out]; exact hqlt, by rw [hy.out]; exact HEQ.out, by rw [if_pos (by show M1.aheadB _ _ _ _ _ _ = true; exact hsa.out)]⟩⟩).symm : M1.spTo us tr (k + 1) = bs.set q u)
                  generalize W4.drew = W5 at hB5 ⊢
                  have bx5 := bx1.below hB5
                  have bxl := bx5.lt
                  have b0 := bx5.cell (o := 0) (by omega)
                  simp only [show (#[.int .i64 u.dr, .int .i64 u.dn, .int .i64 u.sw, .int .i64 u.sc, .int .i64 u.sr, .int .i64 1, .int .i64 tr, .int .i64 u.id, .int .i64 u.pa, .string u.s, .int .i64 u.st, .int .i64 u.en, .int .i64 u.lv] : Array Value).getD 0 undef = .int .i64 u.dr from rfl] at b0
                  have b1 := bx5.cell (o := 1) (by omega)
                  simp only [show (#[.int .i64 u.dr, .int .i64 u.dn, .int .i64 u.sw, .int .i64 u.sc, .int .i64 u.sr, .int .i64 1, .int .i64 tr, .int .i64 u.id, .int .i64 u.pa, .string u.s, .int .i64 u.st, .int .i64 u.en, .int .i64 u.lv] : Array Value).getD 1 undef = .int .i64 u.dn from rfl] at b1
                  have b2 := bx5.cell (o := 2) (by omega)
                  simp only [show (#[.int .i64 u.dr, .int .i64 u.dn, .int .i64 u.sw, .int .i64 u.sc, .int .i64 u.sr, .int .i64 1, .int .i64 tr, .int .i64 u.id, .int .i64 u.pa, .string u.s, .int .i64 u.st, .int .i64 u.en, .int .i64 u.lv] : Array Value).getD 2 undef = .int .i64 u.sw from rfl] at b2
                  have b3 := bx5.cell (o := 3) (by omega)
                  simp only [show (#[.int .i64 u.dr, .int .i64 u.dn, .int .i64 u.sw, .int .i64 u.sc, .int .i64 u.sr, .int .i64 1, .int .i64 tr, .int .i64 u.id, .int .i64 u.pa, .string u.s, .int .i64 u.st, .int .i64 u.en, .int .i64 u.lv] : Array Value).getD 3 undef = .int .i64 u.sc from rfl] at b3
                  have b4 := bx5.cell (o := 4) (by omega)
                  simp only [show (#[.int .i64 u.dr, .int .i64 u.dn, .int .i64 u.sw, .int .i64 u.sc, .int .i64 u.sr, .int .i64 1, .int .i64 tr, .int .i64 u.id, .int .i64 u.pa, .string u.s, .int .i64 u.st, .int .i64 u.en, .int .i64 u.lv] : Array Value).getD 4 undef = .int .i64 u.sr from rfl] at b4
                  have b5 := bx5.cell (o := 5) (by omega)
                  simp only [show (#[.int .i64 u.dr, .int .i64 u.dn, .int .i64 u.sw, .int .i64 u.sc, .int .i64 u.sr, .int .i64 1, .int .i64 tr, .int .i64 u.id, .int .i64 u.pa, .string u.s, .int .i64 u.st, .int .i64 u.en, .int .i64 u.lv] : Array Value).getD 5 undef = .int .i64 1 from rfl] at b5
                  have b6 := bx5.cell (o := 6) (by omega)
                  simp only [show (#[.int .i64 u.dr, .int .i64 u.dn, .int .i64 u.sw, .int .i64 u.sc, .int .i64 u.sr, .int .i64 1, .int .i64 tr, .int .i64 u.id, .int .i64 u.pa, .string u.s, .int .i64 u.st, .int .i64 u.en, .int .i64 u.lv] : Array Value).getD 6 undef = .int .i64 tr from rfl] at b6
                  have b7 := bx5.cell (o := 7) (by omega)
                  simp only [show (#[.int .i64 u.dr, .int .i64 u.dn, .int .i64 u.sw, .int .i64 u.sc, .int .i64 u.sr, .int .i64 1, .int .i64 tr, .int .i64 u.id, .int .i64 u.pa, .string u.s, .int .i64 u.st, .int .i64 u.en, .int .i64 u.lv] : Array Value).getD 7 undef = .int .i64 u.id from rfl] at b7
                  have b8 := bx5.cell (o := 8) (by omega)
                  simp only [show (#[.int .i64 u.dr, .int .i64 u.dn, .int .i64 u.sw, .int .i64 u.sc, .int .i64 u.sr, .int .i64 1, .int .i64 tr, .int .i64 u.id, .int .i64 u.pa, .string u.s, .int .i64 u.st, .int .i64 u.en, .int .i64 u.lv] : Array Value).getD 8 undef = .int .i64 u.pa from rfl] at b8
                  have b9 := bx5.cell (o := 9) (by omega)
                  simp only [show (#[.int .i64 u.dr, .int .i64 u.dn, .int .i64 u.sw, .int .i64 u.sc, .int .i64 u.sr, .int .i64 1, .int .i64 tr, .int .i64 u.id, .int .i64 u.pa, .string u.s, .int .i64 u.st, .int .i64 u.en, .int .i64 u.lv] : Array Value).getD 9 undef = .string u.s from rfl] at b9
                  have b10 := bx5.cell (o := 10) (by omega)
                  simp only [show (#[.int .i64 u.dr, .int .i64 u.dn, .int .i64 u.sw, .int .i64 u.sc, .int .i64 u.sr, .int .i64 1, .int .i64 tr, .int .i64 u.id, .int .i64 u.pa, .string u.s, .int .i64 u.st, .int .i64 u.en, .int .i64 u.lv] : Array Value).getD 10 undef = .int .i64 u.st from rfl] at b10
                  have b11 := bx5.cell (o := 11) (by omega)
                  simp only [show (#[.int .i64 u.dr, .int .i64 u.dn, .int .i64 u.sw, .int .i64 u.sc, .int .i64 u.sr, .int .i64 1, .int .i64 tr, .int .i64 u.id, .int .i64 u.pa, .string u.s, .int .i64 u.st, .int .i64 u.en, .int .i64 u.lv] : Array Value).getD 11 undef = .int .i64 u.en from rfl] at b11
                  have b12 := bx5.cell (o := 12) (by omega)
                  simp only [show (#[.int .i64 u.dr, .int .i64 u.dn, .int .i64 u.sw, .int .i64 u.sc, .int .i64 u.sr, .int .i64 1, .int .i64 tr, .int .i64 u.id, .int .i64 u.pa, .string u.s, .int .i64 u.st, .int .i64 u.en, .int .i64 u.lv] : Array Value).getD 12 undef = .int .i64 u.lv from rfl] at b12
                  rcases (mu1.below hB5).2.2 with ⟨h0, _⟩ | ⟨g', eg, hglo, hghi, rg⟩
                  · omega
                  injection eg with eg
                  injection eg with eg
                  subst eg
                  have hgl := rg.lt
                  have d0 := rg.cell (o := q * 13) (by omega)
                  have y0 := rg.free (o := q * 13) (by omega)
                  have d1 := rg.cell (o := q * 13 + 1) (by omega)
                  have y1 := rg.free (o := q * 13 + 1) (by omega)
                  have d2 := rg.cell (o := q * 13 + 2) (by omega)
                  have y2 := rg.free (o := q * 13 + 2) (by omega)
                  have d3 := rg.cell (o := q * 13 + 3) (by omega)
                  have y3 := rg.free (o := q * 13 + 3) (by omega)
                  have d4 := rg.cell (o := q * 13 + 4) (by omega)
                  have y4 := rg.free (o := q * 13 + 4) (by omega)
                  have d5 := rg.cell (o := q * 13 + 5) (by omega)
                  have y5 := rg.free (o := q * 13 + 5) (by omega)
                  have d6 := rg.cell (o := q * 13 + 6) (by omega)
                  have y6 := rg.free (o := q * 13 + 6) (by omega)
                  have d7 := rg.cell (o := q * 13 + 7) (by omega)
                  have y7 := rg.free (o := q * 13 + 7) (by omega)
                  have d8 := rg.cell (o := q * 13 + 8) (by omega)
                  have y8 := rg.free (o := q * 13 + 8) (by omega)
                  have d9 := rg.cell (o := q * 13 + 9) (by omega)
                  have y9 := rg.free (o := q * 13 + 9) (by omega)
                  have d10 := rg.cell (o := q * 13 + 10) (by omega)
                  have y10 := rg.free (o := q * 13 + 10) (by omega)
                  have d11 := rg.cell (o := q * 13 + 11) (by omega)
                  have y11 := rg.free (o := q * 13 + 11) (by omega)
                  have d12 := rg.cell (o := q * 13 + 12) (by omega)
                  have y12 := rg.free (o := q * 13 + 12) (by omega)
                  have B5 := B1.trans (hB5.mono B1.size)
                  have hs5 := hB5.size
                  go_wp2_with fail
                  have hv : [.int .i64 u.dr, .int .i64 u.dn, .int .i64 u.sw, .int .i64 u.sc, .int .i64 u.sr, .int .i64 1, .int .i64 tr, .int .i64 u.id, .int .i64 u.pa, .string u.s, .int .i64 u.st, .int .i64 u.en, .int .i64 u.lv] = ucs u := by have q := congrArg Array.toList HU.out; simpa using q
                  obtain ⟨R6, G6⟩ := row_put (q := q) (u := u) rg hbm.out hqlt hv
                  exact ⟨⟨k + 1, m, _, c, ⟨_, rfl⟩, by omega, by go_num, (by rw [HE2.out, List.length_set]; exact hbm.out : (M1.spTo us tr (k + 1)).length = m), by omega, rfl, by rw [HE2.out]; exact ⟨hmu1, mu1.2.1, Or.inr ⟨g, rfl, hglo, R6.lt, R6⟩⟩, B5.trans (gr_to G6 B5.size (by omega))⟩, by simp [intOf]; omega⟩
              · have heqb : (y == u.id) = false := by simp [heq]
                have hgt : u.id < y := by omega
                go_wp2_with fail
                go_region_held3 (fun w' => Kp W3 w') (first | exact kp_zero _ | exact kp_drew (by assumption) | exact kp_step (by assumption) (by assumption)) (fail)
                rename_i hK3
                have hB4 := hB3.trans (hK3.1.mono hB3.size)
                generalize W3.drew = W4 at hB4 ⊢
                have bx4 := bx1.below hB4
                have bxl4 := bx4.lt
                have mu4 := mu1.below hB4
                have u4 := mu4.upds hbm.out HTB.out
                have B4 := B1.trans (hB4.mono B1.size)
                have own0 := ownsU_empty W4 63
                have hA : Below W4.heap.size W4 (W4.alloc (.cells #[] 63)) := (Below.refl _ _).alloc (Nat.le_refl _) _
                have lt1 : Hid ((bs.take q).length = q) := (by have := hbm.out; simp; omega : (bs.take q).length = q)
                have lt2 : Hid ((bs.take q ++ [u]).length = q + 1) := (by have := hbm.out; simp; omega : (bs.take q ++ [u]).length = q + 1)
                have hus : u.s.size ≤ maxLen := by rw [← hu.out]; exact h1.htxt k hlt
                have HUS : Hid (u.s.size ≤ maxLen) := hus
                clear hus
                go_wp2_with (at_builtin; first | (refine wpList_appU (by rfl) _ _ rfl W4.heap.size _ _ (q + 1) (bs.take q ++ [u]) lt2.out rfl own2 _ _ _ (bs.drop q) rfl (sub_drop (u4.below hb2) hqlt) (by omega) hs2 ?_; intro a3 c3 w3 own3 hb3) | (refine wpList_appU (by rfl) _ _ rfl W4.heap.size _ _ q (bs.take q) lt1.out rfl (owns_below own1 ((Below.refl _ _).alloc (Nat.le_refl _) _)) _ _ _ [u] rfl (one_upds w1 _ u HU.out HUS.out _) (by omega) (by simp; omega) ?_; intro a2 c2 w2 own2 hb2; replace hb2 := (hb1.alloc hs1 _).trans hb2; have hs2 := hb2.size) | (refine wpList_appU (by rfl) _ _ rfl W4.heap.size _ _ 0 [] rfl rfl own0 _ _ _ (bs.take q) rfl (sub_take (u4.below hA) hqm) (by omega) (by simp) ?_; intro a1 c1 w1 own1 hb1; replace hb1 := hA.trans hb1; have hs1 := hb1.size; have bxA := bx4.below hb1; have bxlA := bxA.lt; have z0 := (bxA.cell (o := 0) (by omega) : w1.cell? ⟨Wr.heap.size, 0, none⟩ = some (.int .i64 u.dr)); have z1 := (bxA.cell (o := 1) (by omega) : w1.cell? ⟨Wr.heap.size, 1, none⟩ = some (.int .i64 u.dn)); have z2 := (bxA.cell (o := 2) (by omega) : w1.cell? ⟨Wr.heap.size, 2, none⟩ = some (.int .i64 u.sw)); have z3 := (bxA.cell (o := 3) (by omega) : w1.cell? ⟨Wr.heap.size, 3, none⟩ = some (.int .i64 u.sc)); have z4 := (bxA.cell (o := 4) (by omega) : w1.cell? ⟨Wr.heap.size, 4, none⟩ = some (.int .i64 u.sr)); have z5 := (bxA.cell (o := 5) (by omega) : w1.cell? ⟨Wr.heap.size, 5, none⟩ = some (.int .i64 1)); have z6 := (bxA.cell (o := 6) (by omega) : w1.cell? ⟨Wr.heap.size, 6, none⟩ = some (.int .i64 tr)); have z7 := (bxA.cell (o := 7) (by omega) : w1.cell? ⟨Wr.heap.size, 7, none⟩ = some (.int .i64 u.id)); have z8 := (bxA.cell (o := 8) (by omega) : w1.cell? ⟨Wr.heap.size, 8, none⟩ = some (.int .i64 u.pa)); have z9 := (bxA.cell (o := 9) (by omega) : w1.cell? ⟨Wr.heap.size, 9, none⟩ = some (.string u.s)); have z10 := (bxA.cell (o := 10) (by omega) : w1.cell? ⟨Wr.heap.size, 10, none⟩ = some (.int .i64 u.st)); have z11 := (bxA.cell (o := 11) (by omega) : w1.cell? ⟨Wr.heap.size, 11, none⟩ = some (.int .i64 u.en)); have z12 := (bxA.cell (o := 12) (by omega) : w1.cell? ⟨Wr.heap.size, 12, none⟩ = some (.int .i64 u.lv)); simp only [Nat.zero_add, List.nil_append] at own1 ⊢))
                have hb3' := hb2.trans hb3
                have B6 := B4.trans (hb3'.mono B4.size)
                have hs4 := B4.size
                have lt3 : Hid (((bs.take q ++ [u]) ++ bs.drop q).length = q + 1 + (m - q)) := (by have := hbm.out; simp; omega : ((bs.take q ++ [u]) ++ bs.drop q).length = q + 1 + (m - q))
                have HE3 : Hid (M1.spTo us tr (k + 1) = (bs.take q ++ [u]) ++ bs.drop q) := (by
                  rw [HE.out]
                  exact (M1.putB_is ⟨q, by rw [hbm.out]; exact hqm, hall.out, Or.inr ⟨Or.inr (by rw [hy.out]; exact hgt), rfl⟩⟩).symm : M1.spTo us tr (k + 1) = (bs.take q ++ [u]) ++ bs.drop q)
                have own3' : w3.ownsRow W4.heap.size 63 13 (.slice a3 ((bs.take q ++ [u]) ++ bs.drop q).length c3) ((bs.take q ++ [u]) ++ bs.drop q).length (ucL ((bs.take q ++ [u]) ++ bs.drop q)) := by rw [lt3.out]; exact own3
                obtain ⟨aF, cF, eF, muF⟩ := MU.of_owns own3'
                injection eF with e1 e2 e3
                (try clear e2)
                subst e1
                subst e3
                rw [lt3.out] at muF
                have hsm : ∃ g, a3 = some ⟨g, 0, none⟩ := by
                  rcases muF.2.2 with ⟨h0, _⟩ | ⟨gg, e, _⟩
                  · omega
                  · exact ⟨gg, e⟩
                exact ⟨⟨k + 1, q + 1 + (m - q), a3, c3, hsm, by omega, by go_num, (by rw [HE3.out]; exact lt3.out : (M1.spTo us tr (k + 1)).length = q + 1 + (m - q)), by omega, rfl, by rw [HE3.out]; exact muF.widS hs4 (Nat.le_refl _), B6⟩, by simp [intOf]; omega⟩
          · have hqm2 : q = m := by omega
            subst hqm2
            obtain ⟨g, rfl⟩ := hsome
            have hkb : decide ((q : Int) < (q : Int)) = false := by simp
            go_wp2_with fail
            refine wp_region_held_drew (S := fun w' => Kp wr w') (by kernel_rfl) ?_ (fun hHeld => ?_)
            · exact kp_zero _
            refine wpAnyH_take (i := 0) (v := ?_) rfl (by kernel_rfl) (by kernel_rfl) (by kernel_rfl) (fun _ _ _ h => h) (Or.inl ⟨by rfl, ?_⟩) hHeld ?_
            rotate_left
            · (intro w hSw; (try dsimp only at hSw); go_simp; try (with_reducible rfl))
            (try simp only [Act.put, List.getElem_toArray, List.getElem_cons_zero, List.getElem_cons_succ, List.setIfInBounds_toArray, List.set_cons_zero, List.set_cons_succ])
            refine wpAnyH_take (i := 1) (v := ?_) rfl (by kernel_rfl) (by kernel_rfl) (by kernel_rfl) (fun _ _ _ h => h) (Or.inl ⟨by rfl, ?_⟩) hHeld ?_
            rotate_left
            · (intro w hSw; (try dsimp only at hSw); go_simp; try (with_reducible rfl))
            (try simp only [Act.put, List.getElem_toArray, List.getElem_cons_zero, List.getElem_cons_succ, List.setIfInBounds_toArray, List.set_cons_zero, List.set_cons_succ])
            refine wpAnyH_take (i := 2) (v := ?_) rfl (by kernel_rfl) (by kernel_rfl) (by kernel_rfl) (fun _ _ _ h => h) (Or.inl ⟨by rfl, ?_⟩) hHeld ?_
            rotate_left
            · (intro w hSw; (try dsimp only at hSw); go_simp; try (with_reducible rfl))
            (try simp only [Act.put, List.getElem_toArray, List.getElem_cons_zero, List.getElem_cons_succ, List.setIfInBounds_toArray, List.set_cons_zero, List.set_cons_succ])
            refine wpAnyH_take (i := 3) (v := .bool false) rfl (by kernel_rfl) (by kernel_rfl) (by kernel_rfl) (fun _ _ _ h => h) (Or.inl ⟨by rfl, ?_⟩) hHeld ?_
            · (intro w hSw; (try dsimp only at hSw); go_simp; (try simp))
            (try simp only [Act.put, List.getElem_toArray, List.getElem_cons_zero, List.getElem_cons_succ, List.setIfInBounds_toArray, List.set_cons_zero, List.set_cons_succ])
            refine wpAnyH_take (i := 4) (v := ?_) rfl (by kernel_rfl) (by kernel_rfl) (by kernel_rfl) (fun _ _ _ h => h) (Or.inl ⟨by rfl, ?_⟩) hHeld ?_
            rotate_left
            · (intro w hSw; (try dsimp only at hSw); go_simp; try (with_reducible rfl))
            (try simp only [Act.put, List.getElem_toArray, List.getElem_cons_zero, List.getElem_cons_succ, List.setIfInBounds_toArray, List.set_cons_zero, List.set_cons_succ])
            refine wpAnyH_take (i := 5) (v := undef) rfl (by kernel_rfl) (by kernel_rfl) (by kernel_rfl) (fun _ _ _ h => h) (Or.inr ⟨by rfl, rfl⟩) hHeld ?_
            (try simp only [Act.put, List.getElem_toArray, List.getElem_cons_zero, List.getElem_cons_succ, List.setIfInBounds_toArray, List.set_cons_zero, List.set_cons_succ])
            refine wpAnyH_take (i := 6) (v := undef) rfl (by kernel_rfl) (by kernel_rfl) (by kernel_rfl) (fun _ _ _ h => h) (Or.inr ⟨by rfl, rfl⟩) hHeld ?_
            (try simp only [Act.put, List.getElem_toArray, List.getElem_cons_zero, List.getElem_cons_succ, List.setIfInBounds_toArray, List.set_cons_zero, List.set_cons_succ])
            refine wpAnyH_take (i := 7) (v := undef) rfl (by kernel_rfl) (by kernel_rfl) (by kernel_rfl) (fun _ _ _ h => h) (Or.inr ⟨by rfl, rfl⟩) hHeld ?_
            (try simp only [Act.put, List.getElem_toArray, List.getElem_cons_zero, List.getElem_cons_succ, List.setIfInBounds_toArray, List.set_cons_zero, List.set_cons_succ])
            refine wpAnyH_take (i := 8) (v := undef) rfl (by kernel_rfl) (by kernel_rfl) (by kernel_rfl) (fun _ _ _ h => h) (Or.inr ⟨by rfl, rfl⟩) hHeld ?_
            (try simp only [Act.put, List.getElem_toArray, List.getElem_cons_zero, List.getElem_cons_succ, List.setIfInBounds_toArray, List.set_cons_zero, List.set_cons_succ])
            refine wpAnyH_take (i := 9) (v := undef) rfl (by kernel_rfl) (by kernel_rfl) (by kernel_rfl) (fun _ _ _ h => h) (Or.inr ⟨by rfl, rfl⟩) hHeld ?_
            (try simp only [Act.put, List.getElem_toArray, List.getElem_cons_zero, List.getElem_cons_succ, List.setIfInBounds_toArray, List.set_cons_zero, List.set_cons_succ])
            refine wpAnyH_take (i := 10) (v := undef) rfl (by kernel_rfl) (by kernel_rfl) (by kernel_rfl) (fun _ _ _ h => h) (Or.inr ⟨by rfl, rfl⟩) hHeld ?_
            (try simp only [Act.put, List.getElem_toArray, List.getElem_cons_zero, List.getElem_cons_succ, List.setIfInBounds_toArray, List.set_cons_zero, List.set_cons_succ])
            refine wpAnyH_take (i := 11) (v := undef) rfl (by kernel_rfl) (by kernel_rfl) (by kernel_rfl) (fun _ _ _ h => h) (Or.inr ⟨by rfl, rfl⟩) hHeld ?_
            (try simp only [Act.put, List.getElem_toArray, List.getElem_cons_zero, List.getElem_cons_succ, List.setIfInBounds_toArray, List.set_cons_zero, List.set_cons_succ])
            refine wpAnyH_take (i := 12) (v := undef) rfl (by kernel_rfl) (by kernel_rfl) (by kernel_rfl) (fun _ _ _ h => h) (Or.inr ⟨by rfl, rfl⟩) hHeld ?_
            (try simp only [Act.put, List.getElem_toArray, List.getElem_cons_zero, List.getElem_cons_succ, List.setIfInBounds_toArray, List.set_cons_zero, List.set_cons_succ])
            refine wpAnyH_take (i := 13) (v := undef) rfl (by kernel_rfl) (by kernel_rfl) (by kernel_rfl) (fun _ _ _ h => h) (Or.inr ⟨by rfl, rfl⟩) hHeld ?_
            (try simp only [Act.put, List.getElem_toArray, List.getElem_cons_zero, List.getElem_cons_succ, List.setIfInBounds_toArray, List.set_cons_zero, List.set_cons_succ])
            refine wpAnyH_take (i := 14) (v := undef) rfl (by kernel_rfl) (by kernel_rfl) (by kernel_rfl) (fun _ _ _ h => h) (Or.inr ⟨by rfl, rfl⟩) hHeld ?_
            (try simp only [Act.put, List.getElem_toArray, List.getElem_cons_zero, List.getElem_cons_succ, List.setIfInBounds_toArray, List.set_cons_zero, List.set_cons_succ])
            refine wpAnyH_take (i := 15) (v := ?_) rfl (by kernel_rfl) (by kernel_rfl) (by kernel_rfl) (fun _ _ _ h => h) (Or.inl ⟨by rfl, ?_⟩) hHeld ?_
            rotate_left
            · (intro w hSw; (try dsimp only at hSw); go_simp; try (with_reducible rfl))
            (try simp only [Act.put, List.getElem_toArray, List.getElem_cons_zero, List.getElem_cons_succ, List.setIfInBounds_toArray, List.set_cons_zero, List.set_cons_succ])
            refine wpAnyH_done (by kernel_rfl) ?_ _
            have hB3 := hB2.trans (hHeld.1.mono hB2.size)
            clear hHeld b7 bxl bx2 mu2
            generalize wr.drew = W3 at hB3 ⊢
            go_wp2_with fail
            refine wp_region_held_drew (S := fun w' => Kp W3 w') (by kernel_rfl) ?_ (fun hHeld => ?_)
            · exact kp_zero _
            refine wpAnyH_take (i := 0) (v := ?_) rfl (by kernel_rfl) (by kernel_rfl) (by kernel_rfl) (fun _ _ _ h => h) (Or.inl ⟨by rfl, ?_⟩) hHeld ?_
            rotate_left
            · (intro w hSw; (try dsimp only at hSw); go_simp; try (with_reducible rfl))
            (try simp only [Act.put, List.getElem_toArray, List.getElem_cons_zero, List.getElem_cons_succ, List.setIfInBounds_toArray, List.set_cons_zero, List.set_cons_succ])
            refine wpAnyH_take (i := 1) (v := ?_) rfl (by kernel_rfl) (by kernel_rfl) (by kernel_rfl) (fun _ _ _ h => h) (Or.inl ⟨by rfl, ?_⟩) hHeld ?_
            rotate_left
            · (intro w hSw; (try dsimp only at hSw); go_simp; try (with_reducible rfl))
            (try simp only [Act.put, List.getElem_toArray, List.getElem_cons_zero, List.getElem_cons_succ, List.setIfInBounds_toArray, List.set_cons_zero, List.set_cons_succ])
            refine wpAnyH_take (i := 2) (v := ?_) rfl (by kernel_rfl) (by kernel_rfl) (by kernel_rfl) (fun _ _ _ h => h) (Or.inl ⟨by rfl, ?_⟩) hHeld ?_
            rotate_left
            · (intro w hSw; (try dsimp only at hSw); go_simp; try (with_reducible rfl))
            (try simp only [Act.put, List.getElem_toArray, List.getElem_cons_zero, List.getElem_cons_succ, List.setIfInBounds_toArray, List.set_cons_zero, List.set_cons_succ])
            refine wpAnyH_take (i := 3) (v := .bool false) rfl (by kernel_rfl) (by kernel_rfl) (by kernel_rfl) (fun _ _ _ h => h) (Or.inl ⟨by rfl, ?_⟩) hHeld ?_
            · (intro w hSw; (try dsimp only at hSw); go_simp; (try simp))
            (try simp only [Act.put, List.getElem_toArray, List.getElem_cons_zero, List.getElem_cons_succ, List.setIfInBounds_toArray, List.set_cons_zero, List.set_cons_succ])
            refine wpAnyH_take (i := 4) (v := ?_) rfl (by kernel_rfl) (by kernel_rfl) (by kernel_rfl) (fun _ _ _ h => h) (Or.inl ⟨by rfl, ?_⟩) hHeld ?_
            rotate_left
            · (intro w hSw; (try dsimp only at hSw); go_simp; try (with_reducible rfl))
            (try simp only [Act.put, List.getElem_toArray, List.getElem_cons_zero, List.getElem_cons_succ, List.setIfInBounds_toArray, List.set_cons_zero, List.set_cons_succ])
            refine wpAnyH_take (i := 5) (v := undef) rfl (by kernel_rfl) (by kernel_rfl) (by kernel_rfl) (fun _ _ _ h => h) (Or.inr ⟨by rfl, rfl⟩) hHeld ?_
            (try simp only [Act.put, List.getElem_toArray, List.getElem_cons_zero, List.getElem_cons_succ, List.setIfInBounds_toArray, List.set_cons_zero, List.set_cons_succ])
            refine wpAnyH_take (i := 6) (v := undef) rfl (by kernel_rfl) (by kernel_rfl) (by kernel_rfl) (fun _ _ _ h => h) (Or.inr ⟨by rfl, rfl⟩) hHeld ?_
            (try simp only [Act.put, List.getElem_toArray, List.getElem_cons_zero, List.getElem_cons_succ, List.setIfInBounds_toArray, List.set_cons_zero, List.set_cons_succ])
            refine wpAnyH_take (i := 7) (v := undef) rfl (by kernel_rfl) (by kernel_rfl) (by kernel_rfl) (fun _ _ _ h => h) (Or.inr ⟨by rfl, rfl⟩) hHeld ?_
            (try simp only [Act.put, List.getElem_toArray, List.getElem_cons_zero, List.getElem_cons_succ, List.setIfInBounds_toArray, List.set_cons_zero, List.set_cons_succ])
            refine wpAnyH_take (i := 8) (v := undef) rfl (by kernel_rfl) (by kernel_rfl) (by kernel_rfl) (fun _ _ _ h => h) (Or.inr ⟨by rfl, rfl⟩) hHeld ?_
            (try simp only [Act.put, List.getElem_toArray, List.getElem_cons_zero, List.getElem_cons_succ, List.setIfInBounds_toArray, List.set_cons_zero, List.set_cons_succ])
            refine wpAnyH_take (i := 9) (v := undef) rfl (by kernel_rfl) (by kernel_rfl) (by kernel_rfl) (fun _ _ _ h => h) (Or.inr ⟨by rfl, rfl⟩) hHeld ?_
            (try simp only [Act.put, List.getElem_toArray, List.getElem_cons_zero, List.getElem_cons_succ, List.setIfInBounds_toArray, List.set_cons_zero, List.set_cons_succ])
            refine wpAnyH_take (i := 10) (v := undef) rfl (by kernel_rfl) (by kernel_rfl) (by kernel_rfl) (fun _ _ _ h => h) (Or.inr ⟨by rfl, rfl⟩) hHeld ?_
            (try simp only [Act.put, List.getElem_toArray, List.getElem_cons_zero, List.getElem_cons_succ, List.setIfInBounds_toArray, List.set_cons_zero, List.set_cons_succ])
            refine wpAnyH_take (i := 11) (v := undef) rfl (by kernel_rfl) (by kernel_rfl) (by kernel_rfl) (fun _ _ _ h => h) (Or.inr ⟨by rfl, rfl⟩) hHeld ?_
            (try simp only [Act.put, List.getElem_toArray, List.getElem_cons_zero, List.getElem_cons_succ, List.setIfInBounds_toArray, List.set_cons_zero, List.set_cons_succ])
            refine wpAnyH_take (i := 12) (v := undef) rfl (by kernel_rfl) (by kernel_rfl) (by kernel_rfl) (fun _ _ _ h => h) (Or.inr ⟨by rfl, rfl⟩) hHeld ?_
            (try simp only [Act.put, List.getElem_toArray, List.getElem_cons_zero, List.getElem_cons_succ, List.setIfInBounds_toArray, List.set_cons_zero, List.set_cons_succ])
            refine wpAnyH_take (i := 13) (v := undef) rfl (by kernel_rfl) (by kernel_rfl) (by kernel_rfl) (fun _ _ _ h => h) (Or.inr ⟨by rfl, rfl⟩) hHeld ?_
            (try simp only [Act.put, List.getElem_toArray, List.getElem_cons_zero, List.getElem_cons_succ, List.setIfInBounds_toArray, List.set_cons_zero, List.set_cons_succ])
            refine wpAnyH_take (i := 14) (v := undef) rfl (by kernel_rfl) (by kernel_rfl) (by kernel_rfl) (fun _ _ _ h => h) (Or.inr ⟨by rfl, rfl⟩) hHeld ?_
            (try simp only [Act.put, List.getElem_toArray, List.getElem_cons_zero, List.getElem_cons_succ, List.setIfInBounds_toArray, List.set_cons_zero, List.set_cons_succ])
            refine wpAnyH_take (i := 15) (v := ?_) rfl (by kernel_rfl) (by kernel_rfl) (by kernel_rfl) (fun _ _ _ h => h) (Or.inl ⟨by rfl, ?_⟩) hHeld ?_
            rotate_left
            · (intro w hSw; (try dsimp only at hSw); go_simp; try (with_reducible rfl))
            (try simp only [Act.put, List.getElem_toArray, List.getElem_cons_zero, List.getElem_cons_succ, List.setIfInBounds_toArray, List.set_cons_zero, List.set_cons_succ])
            refine wpAnyH_take (i := 16) (v := ?_) rfl (by kernel_rfl) (by kernel_rfl) (by kernel_rfl) (fun _ _ _ h => h) (Or.inl ⟨by rfl, ?_⟩) hHeld ?_
            rotate_left
            · (intro w hSw; (try dsimp only at hSw); go_simp; try (with_reducible rfl))
            (try simp only [Act.put, List.getElem_toArray, List.getElem_cons_zero, List.getElem_cons_succ, List.setIfInBounds_toArray, List.set_cons_zero, List.set_cons_succ])
            refine wpAnyH_done (by kernel_rfl) ?_ _
            have hK3 := hHeld
            clear hHeld
            by_cases hck : q = c
            · subst hck
              have hB4 := hB3.trans (hK3.1.mono hB3.size)
              generalize W3.drew = W4 at hB4 ⊢
              have bx4 := bx1.below hB4
              have bxl4 := bx4.lt
              have mu4 := mu1.below hB4
              have u4 := mu4.upds hbm.out HTB.out
              have B4 := B1.trans (hB4.mono B1.size)
              have own0 := ownsU_empty W4 63
              have hA : Below W4.heap.size W4 (W4.alloc (.cells #[] 63)) := (Below.refl _ _).alloc (Nat.le_refl _) _
              have lt1 : Hid ((bs.take q).length = q) := (by have := hbm.out; simp; omega : (bs.take q).length = q)
              have lt2 : Hid ((bs.take q ++ [u]).length = q + 1) := (by have := hbm.out; simp; omega : (bs.take q ++ [u]).length = q + 1)
              have hus : u.s.size ≤ maxLen := by rw [← hu.out]; exact h1.htxt k hlt
              have HUS : Hid (u.s.size ≤ maxLen) := hus
              clear hus
              go_wp2_with (at_builtin; first | (refine wpList_appU (by rfl) _ _ rfl W4.heap.size _ _ (q + 1) (bs.take q ++ [u]) lt2.out rfl own2 _ _ _ [] rfl (nil_upds _ _ _ (by unfold maxLen; omega)) (by omega) hs2 ?_; intro a3 c3 w3 own3 hb3) | (refine wpList_appU (by rfl) _ _ rfl W4.heap.size _ _ q (bs.take q) lt1.out rfl (owns_below own1 ((Below.refl _ _).alloc (Nat.le_refl _) _)) _ _ _ [u] rfl (one_upds w1 _ u HU.out HUS.out _) (by omega) (by simp; omega) ?_; intro a2 c2 w2 own2 hb2; replace hb2 := (hb1.alloc hs1 _).trans hb2; have hs2 := hb2.size) | (refine wpList_appU (by rfl) _ _ rfl W4.heap.size _ _ 0 [] rfl rfl own0 _ _ _ (bs.take q) rfl (sub_take (u4.below hA) hqm) (by omega) (by simp) ?_; intro a1 c1 w1 own1 hb1; replace hb1 := hA.trans hb1; have hs1 := hb1.size; have bxA := bx4.below hb1; have bxlA := bxA.lt; have z0 := (bxA.cell (o := 0) (by omega) : w1.cell? ⟨Wr.heap.size, 0, none⟩ = some (.int .i64 u.dr)); have z1 := (bxA.cell (o := 1) (by omega) : w1.cell? ⟨Wr.heap.size, 1, none⟩ = some (.int .i64 u.dn)); have z2 := (bxA.cell (o := 2) (by omega) : w1.cell? ⟨Wr.heap.size, 2, none⟩ = some (.int .i64 u.sw)); have z3 := (bxA.cell (o := 3) (by omega) : w1.cell? ⟨Wr.heap.size, 3, none⟩ = some (.int .i64 u.sc)); have z4 := (bxA.cell (o := 4) (by omega) : w1.cell? ⟨Wr.heap.size, 4, none⟩ = some (.int .i64 u.sr)); have z5 := (bxA.cell (o := 5) (by omega) : w1.cell? ⟨Wr.heap.size, 5, none⟩ = some (.int .i64 1)); have z6 := (bxA.cell (o := 6) (by omega) : w1.cell? ⟨Wr.heap.size, 6, none⟩ = some (.int .i64 tr)); have z7 := (bxA.cell (o := 7) (by omega) : w1.cell? ⟨Wr.heap.size, 7, none⟩ = some (.int .i64 u.id)); have z8 := (bxA.cell (o := 8) (by omega) : w1.cell? ⟨Wr.heap.size, 8, none⟩ = some (.int .i64 u.pa)); have z9 := (bxA.cell (o := 9) (by omega) : w1.cell? ⟨Wr.heap.size, 9, none⟩ = some (.string u.s)); have z10 := (bxA.cell (o := 10) (by omega) : w1.cell? ⟨Wr.heap.size, 10, none⟩ = some (.int .i64 u.st)); have z11 := (bxA.cell (o := 11) (by omega) : w1.cell? ⟨Wr.heap.size, 11, none⟩ = some (.int .i64 u.en)); have z12 := (bxA.cell (o := 12) (by omega) : w1.cell? ⟨Wr.heap.size, 12, none⟩ = some (.int .i64 u.lv)); simp only [Nat.zero_add, List.nil_append] at own1 ⊢))
              have hb3' := hb2.trans hb3
              have B6 := B4.trans (hb3'.mono B4.size)
              have hs4 := B4.size
              simp only [List.append_nil, Nat.add_zero] at own3
              have HE3 : Hid (M1.spTo us tr (k + 1) = bs.take q ++ [u]) := (by
                rw [HE.out]
                exact (M1.putB_is ⟨q, by rw [hbm.out]; exact Nat.le_refl _, hall.out, Or.inr ⟨Or.inl hbm.out.symm, by rw [List.drop_eq_nil_of_le (by rw [hbm.out]; exact Nat.le_refl _), List.append_nil]⟩⟩).symm : M1.spTo us tr (k + 1) = bs.take q ++ [u])
              have own3' : w3.ownsRow W4.heap.size 63 13 (.slice a3 (bs.take q ++ [u]).length c3) (bs.take q ++ [u]).length (ucL (bs.take q ++ [u])) := by rw [lt2.out]; exact own3
              obtain ⟨aF, cF, eF, muF⟩ := MU.of_owns own3'
              injection eF with e1 e2 e3
              (try clear e2)
              subst e1
              subst e3
              rw [lt2.out] at muF
              have hsm : ∃ g, a3 = some ⟨g, 0, none⟩ := by
                rcases muF.2.2 with ⟨h0, _⟩ | ⟨gg, e, _⟩
                · omega
                · exact ⟨gg, e⟩
              exact ⟨⟨k + 1, q + 1, a3, c3, hsm, by omega, by go_num, (by rw [HE3.out]; exact lt2.out : (M1.spTo us tr (k + 1)).length = q + 1), by omega, rfl, by rw [HE3.out]; exact muF.widS hs4 (Nat.le_refl _), B6⟩, by simp [intOf]; omega⟩
            · have hck2 : q < c := by omega
              have hB4 := hB3.trans (hK3.1.mono hB3.size)
              generalize W3.drew = W4 at hB4 ⊢
              have bx4 := bx1.below hB4
              have bxl4 := bx4.lt
              have mu4 := mu1.below hB4
              have u4 := mu4.upds hbm.out HTB.out
              have B4 := B1.trans (hB4.mono B1.size)
              have own0 := ownsU_empty W4 63
              have hA : Below W4.heap.size W4 (W4.alloc (.cells #[] 63)) := (Below.refl _ _).alloc (Nat.le_refl _) _
              have lt1 : Hid ((bs.take q).length = q) := (by have := hbm.out; simp; omega : (bs.take q).length = q)
              have lt2 : Hid ((bs.take q ++ [u]).length = q + 1) := (by have := hbm.out; simp; omega : (bs.take q ++ [u]).length = q + 1)
              have hus : u.s.size ≤ maxLen := by rw [← hu.out]; exact h1.htxt k hlt
              have HUS : Hid (u.s.size ≤ maxLen) := hus
              clear hus
              go_wp2_with (at_builtin; first | (refine wpList_appU (by rfl) _ _ rfl W4.heap.size _ _ (q + 1) (bs.take q ++ [u]) lt2.out rfl own2 _ _ _ [] rfl (nil_upds _ _ _ (by unfold maxLen; omega)) (by omega) hs2 ?_; intro a3 c3 w3 own3 hb3) | (refine wpList_appU (by rfl) _ _ rfl W4.heap.size _ _ q (bs.take q) lt1.out rfl (owns_below own1 ((Below.refl _ _).alloc (Nat.le_refl _) _)) _ _ _ [u] rfl (one_upds w1 _ u HU.out HUS.out _) (by omega) (by simp; omega) ?_; intro a2 c2 w2 own2 hb2; replace hb2 := (hb1.alloc hs1 _).trans hb2; have hs2 := hb2.size) | (refine wpList_appU (by rfl) _ _ rfl W4.heap.size _ _ 0 [] rfl rfl own0 _ _ _ (bs.take q) rfl (sub_take (u4.below hA) hqm) (by omega) (by simp) ?_; intro a1 c1 w1 own1 hb1; replace hb1 := hA.trans hb1; have hs1 := hb1.size; have bxA := bx4.below hb1; have bxlA := bxA.lt; have z0 := (bxA.cell (o := 0) (by omega) : w1.cell? ⟨Wr.heap.size, 0, none⟩ = some (.int .i64 u.dr)); have z1 := (bxA.cell (o := 1) (by omega) : w1.cell? ⟨Wr.heap.size, 1, none⟩ = some (.int .i64 u.dn)); have z2 := (bxA.cell (o := 2) (by omega) : w1.cell? ⟨Wr.heap.size, 2, none⟩ = some (.int .i64 u.sw)); have z3 := (bxA.cell (o := 3) (by omega) : w1.cell? ⟨Wr.heap.size, 3, none⟩ = some (.int .i64 u.sc)); have z4 := (bxA.cell (o := 4) (by omega) : w1.cell? ⟨Wr.heap.size, 4, none⟩ = some (.int .i64 u.sr)); have z5 := (bxA.cell (o := 5) (by omega) : w1.cell? ⟨Wr.heap.size, 5, none⟩ = some (.int .i64 1)); have z6 := (bxA.cell (o := 6) (by omega) : w1.cell? ⟨Wr.heap.size, 6, none⟩ = some (.int .i64 tr)); have z7 := (bxA.cell (o := 7) (by omega) : w1.cell? ⟨Wr.heap.size, 7, none⟩ = some (.int .i64 u.id)); have z8 := (bxA.cell (o := 8) (by omega) : w1.cell? ⟨Wr.heap.size, 8, none⟩ = some (.int .i64 u.pa)); have z9 := (bxA.cell (o := 9) (by omega) : w1.cell? ⟨Wr.heap.size, 9, none⟩ = some (.string u.s)); have z10 := (bxA.cell (o := 10) (by omega) : w1.cell? ⟨Wr.heap.size, 10, none⟩ = some (.int .i64 u.st)); have z11 := (bxA.cell (o := 11) (by omega) : w1.cell? ⟨Wr.heap.size, 11, none⟩ = some (.int .i64 u.en)); have z12 := (bxA.cell (o := 12) (by omega) : w1.cell? ⟨Wr.heap.size, 12, none⟩ = some (.int .i64 u.lv)); simp only [Nat.zero_add, List.nil_append] at own1 ⊢))
              have hb3' := hb2.trans hb3
              have B6 := B4.trans (hb3'.mono B4.size)
              have hs4 := B4.size
              simp only [List.append_nil, Nat.add_zero] at own3
              have HE3 : Hid (M1.spTo us tr (k + 1) = bs.take q ++ [u]) := (by
                rw [HE.out]
                exact (M1.putB_is ⟨q, by rw [hbm.out]; exact Nat.le_refl _, hall.out, Or.inr ⟨Or.inl hbm.out.symm, by rw [List.drop_eq_nil_of_le (by rw [hbm.out]; exact Nat.le_refl _), List.append_nil]⟩⟩).symm : M1.spTo us tr (k + 1) = bs.take q ++ [u])
              have own3' : w3.ownsRow W4.heap.size 63 13 (.slice a3 (bs.take q ++ [u]).length c3) (bs.take q ++ [u]).length (ucL (bs.take q ++ [u])) := by rw [lt2.out]; exact own3
              obtain ⟨aF, cF, eF, muF⟩ := MU.of_owns own3'
              injection eF with e1 e2 e3
              (try clear e2)
              subst e1
              subst e3
              rw [lt2.out] at muF
              have hsm : ∃ g, a3 = some ⟨g, 0, none⟩ := by
                rcases muF.2.2 with ⟨h0, _⟩ | ⟨gg, e, _⟩
                · omega
                · exact ⟨gg, e⟩
              exact ⟨⟨k + 1, q + 1, a3, c3, hsm, by omega, by go_num, (by rw [HE3.out]; exact lt2.out : (M1.spTo us tr (k + 1)).length = q + 1), by omega, rfl, by rw [HE3.out]; exact muF.widS hs4 (Nat.le_refl _), B6⟩, by simp [intOf]; omega⟩
      · have HE : Hid (M1.spTo us tr (k + 1) = bs) := (by simp [M1.spTo, hu.out, hq, hbs.out] : M1.spTo us tr (k + 1) = bs)
        by_cases hq1 : u.k = 1
        · have hq2 : ¬ u.tr = tr := fun e => hq ⟨hq1, e⟩
          rw [hq1] at c5
          clear hq hq1
          go_wp2_with fail
          exact ⟨⟨k + 1, m, a, c, hsome, by omega, by go_num, (by rw [HE.out]; exact hbm.out : (M1.spTo us tr (k + 1)).length = m), by omega, rfl, by rw [HE.out]; exact (hmu.below ((Below.refl _ _).alloc (Nat.le_refl _) _)).widS (Nat.le_refl _) (by simp), hB.alloc hB.size _⟩, by simp [intOf]; omega⟩
        · clear hq
          go_wp2_with fail
          exact ⟨⟨k + 1, m, a, c, hsome, by omega, by go_num, (by rw [HE.out]; exact hbm.out : (M1.spTo us tr (k + 1)).length = m), by omega, rfl, by rw [HE.out]; exact (hmu.below ((Below.refl _ _).alloc (Nat.le_refl _) _)).widS (Nat.le_refl _) (by simp), hB.alloc hB.size _⟩, by simp [intOf]; omega⟩
    · have hkn : Hid (k = n) := (by omega : k = n)
      obtain ⟨g, rfl⟩ := hsome
      obtain ⟨Wr, hWr⟩ : ∃ W, W = wr := ⟨_, rfl⟩
      subst hWr
      obtain ⟨ti, hi1, hi2, hi3, hi4⟩ := infoS
      have hi4' : Hid (ti.bytes = 48) := hi4
      have hi2' : Hid (ti.zero = some (.agg #[.int .i64 0, .int .i64 0, .string ByteArray.empty, .int .i64 0, .int .i64 0])) := hi2
      have hi3' : Hid (ti.size = 5) := hi3
      have hi1' : Hid (Try.prog.info? 34 = some ti) := hi1
      clear hi1 hi2 hi3 hi4
      have own0 := ownsS_empty Wr 34
      have hA : Below Wr.heap.size Wr (Wr.alloc (.cells #[] 34)) := (Below.refl _ _).alloc (Nat.le_refl _) _
      go_wp2_with fail
      go_loopw [10, 11] (fun v i wr => ∃ (p : Nat) (a2 : Option Addr) (c2 : Nat), p ≤ m ∧ i = .int .i64 p ∧ v = .slice a2 p c2 ∧ wr.ownsRow Wr.heap.size 34 5 (.slice a2 p c2) p (sL (bs.take p)) ∧ Below Wr.heap.size Wr wr) (fun _ i _ => m - (intOf i).toNat)
      case atStart => exact ⟨0, _, _, Nat.zero_le _, rfl, rfl, own0, hA⟩
      case round =>
        clear own0 hA
        obtain ⟨p, a2, c2, hp, rfl, rfl, hown, hB2⟩ := hrel
        have hs2 := hB2.size
        have mu2 := hmu.below hB2
        by_cases hplt : p < m
        · rcases mu2.2.2 with ⟨h0, _⟩ | ⟨g', eg, hglo, hghi, rg⟩
          · omega
          injection eg with eg
          injection eg with eg
          subst eg
          have hgl := rg.lt
          have j0 : (0 : Int) ≤ (p : Int) := by omega
          have j1 : (p : Int) < (m : Int) := by omega
          obtain ⟨x, hx⟩ : ∃ x, Hid (M1.up bs p = x) := ⟨_, rfl⟩
          have d0 : wr.cell? ⟨g, p * 13 + 7, none⟩ = some (.int .i64 x.id) := by rw [rg.cell (o := p * 13 + 7) (by omega), ucell_at bs p 7 (by omega), hx.out]; rfl
          have d1 : wr.cell? ⟨g, p * 13 + 7 + 1, none⟩ = some (.int .i64 x.pa) := by rw [rg.cell (o := p * 13 + 8) (by omega), ucell_at bs p 8 (by omega), hx.out]; rfl
          have d2 : wr.cell? ⟨g, p * 13 + 7 + 2, none⟩ = some (.string x.s) := by rw [rg.cell (o := p * 13 + 9) (by omega), ucell_at bs p 9 (by omega), hx.out]; rfl
          have d3 : wr.cell? ⟨g, p * 13 + 7 + 3, none⟩ = some (.int .i64 x.st) := by rw [rg.cell (o := p * 13 + 10) (by omega), ucell_at bs p 10 (by omega), hx.out]; rfl
          have d4 : wr.cell? ⟨g, p * 13 + 7 + 4, none⟩ = some (.int .i64 x.en) := by rw [rg.cell (o := p * 13 + 11) (by omega), ucell_at bs p 11 (by omega), hx.out]; rfl
          clear rg
          have HS : Hid (sL (bs.take (p + 1)) = sL (bs.take p) ++ scs x) := (by
            have e : bs.take (p + 1) = bs.take p ++ [x] := by
              rw [← hx.out]
              have hb : p < bs.length := by rw [hbm.out]; exact hplt
              rw [List.take_add_one]
              simp [M1.up, List.getD, hb]
            rw [e, sL_snoc] : sL (bs.take (p + 1)) = sL (bs.take p) ++ scs x)
          go_wp2_with (at_builtin; refine wpList_append_lies _ rfl _ _ _ rfl Wr.heap.size 34 ti _ 5 48 Try.underlying31 hi1'.out hi2'.out hi3'.out hi4'.out rfl (by omega) (.slice a2 p c2) p (sL (bs.take p)) rfl (owns_below hown ((Below.refl _ _).alloc (Nat.le_refl _) _)) ⟨wr.heap.size, 0, none⟩ 1 1 (scs x) rfl rfl (newsS _ _ _ _ _ _ _) (oneSc _) (by omega) (by unfold maxLen; omega) (by omega) (by simp; omega) _ rfl ?_; intro g4 cap4 w4 hown4 hgrow4 hat4 hlt4)
          have hB4 : Below Wr.heap.size Wr w4 := (hB2.alloc hB2.size _).grown hgrow4 (by simp; omega) (owns_base hown)
          exact ⟨⟨p + 1, some ⟨g4, 0, none⟩, cap4, by omega, by go_num, rfl, by rw [HS.out]; exact hown4, hB4⟩, by simp [intOf]; omega⟩
        · have hpm : p = m := by omega
          subst hpm
          have HB : Hid (bs.take p = bs) := (by rw [← hbm.out]; exact List.take_length : bs.take p = bs)
          rw [HB.out] at hown
          have mg := MG.of_ownsS hbm.out hown
          have HF : Hid (M1.spTo us tr n = bs) := (by rw [← hkn.out]; exact hbs.out : M1.spTo us tr n = bs)
          go_wp2_with fail
          go_ret
          rw [HF.out, hbm.out]
          refine ⟨⟨a2, c2, rfl, ?_⟩, hB.trans (hB2.mono hB.size)⟩
          exact ⟨mg.1, mg.2.1, mg.2.2.imp id fun ⟨y, e, h3, h4, r⟩ => ⟨y, e, by omega, h4, r⟩⟩
end Go.Proofs.Ytdpeopmbboogaaa
