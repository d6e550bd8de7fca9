/-
  Texts of one proof, joined: Rdr, ToDotS, Own.
-/
import Derived.Test.YtgcinolbkllkkaaGreatZXWorldOk01
import Derived.Test.YtgcinolbkllkkaaGreatZXWorldOk03
import Derived.Test.YtgcinolbkllkkaaGreatZXWorldOk02
import Derived.Deep.AppendLies
namespace Go.Proofs.YtgcinolbkllkkaaGreat
open Go.RowKit
abbrev Gr (g : Nat) (w w' : World) : Prop := w.grownBy w' (some g)

theorem gr_to {g B : Nat} {a b : World} (h : Gr g a b) (hB : B ≤ a.heap.size) (hg : B ≤ g) : Below B a b :=
 (Below.refl B a).grown h hB (fun k e => by injection e with e; omega)

theorem gr_cell {g : Nat} {a b : World} (h : Gr g a b) {k : Nat} (hk : k < a.heap.size) (hn : k ≠ g) (o : Nat) : b.cell? ⟨k, o, none⟩ = a.cell? ⟨k, o, none⟩ :=
 World.cell?_of_block (w := a) (h.block k hk (fun e => hn (by injection e)))

theorem gr_frozen {g : Nat} {a b : World} (h : Gr g a b) {k : Nat} (hk : k < a.heap.size) (hn : k ≠ g) (o : Nat) : b.frozen? ⟨k, o, none⟩ = a.frozen? ⟨k, o, none⟩ :=
 World.frozen?_of_block (w := a) (h.block k hk (fun e => hn (by injection e)))

theorem RowAt.gr {w w' : World} {k m g : Nat} {f : Nat → Value} (h : RowAt w k m f) (hg : Gr g w w') (hn : k ≠ g) : RowAt w' k m f :=
 ⟨Nat.lt_of_lt_of_le h.1 hg.size, fun o ho => ⟨(gr_cell hg h.1 hn o).trans (h.2 o ho).1, (gr_frozen hg h.1 hn o).trans (h.2 o ho).2⟩⟩

structure Rdr (w : World) (g : Nat) (av : Option Addr) (len cap : Nat) : Prop where
 lt : g < w.heap.size
 c0 : w.cell? ⟨g, 0, none⟩ = some (.slice av len cap)
 c1 : ∃ p : Nat, p ≤ len ∧ w.cell? ⟨g, 1, none⟩ = some (.int .i64 p)
 f0 : w.frozen? ⟨g, 0, none⟩ = false
 f1 : w.frozen? ⟨g, 1, none⟩ = false
 hc : len ≤ cap
 hm : cap ≤ maxLen
 lies : len = 0 ∨ ∃ b off, av = some ⟨b, off, none⟩ ∧ b < w.heap.size ∧ ¬ b = g ∧ ∀ i, i < len → ∃ z, w.cell? ⟨b, off + i, none⟩ = some (.int .u8 z) ∧ 0 ≤ z ∧ z ≤ 255

theorem Rdr.below {w w' : World} {g : Nat} {av : Option Addr} {len cap : Nat} (h : Rdr w g av len cap) (hb : Below w.heap.size w w') : Rdr w' g av len cap := by
 obtain ⟨p, hp, h1⟩ := h.c1
 exact ⟨Nat.lt_of_lt_of_le h.lt hb.size, (hb.cell (p := ⟨g, 0, none⟩) h.lt).trans h.c0, ⟨p, hp, (hb.cell (p := ⟨g, 1, none⟩) h.lt).trans h1⟩, (hb.frozen (p := ⟨g, 0, none⟩) h.lt).trans h.f0, (hb.frozen (p := ⟨g, 1, none⟩) h.lt).trans h.f1, h.hc, h.hm,
  h.lies.imp id fun ⟨b, off, e, hlt, hn, hz⟩ => ⟨b, off, e, Nat.lt_of_lt_of_le hlt hb.size, hn, fun i hi => let ⟨z, h2, h3⟩ := hz i hi; ⟨z, (hb.cell (p := ⟨b, off + i, none⟩) hlt).trans h2, h3⟩⟩⟩

theorem Rdr.set {w : World} {g : Nat} {av : Option Addr} {len cap : Nat} (h : Rdr w g av len cap) {p : Nat} (hp : p ≤ len) : Rdr (w.setCell ⟨g, 1, none⟩ (.int .i64 p)) g av len cap := by
 obtain ⟨q, _, h1⟩ := h.c1
 refine ⟨by have := h.lt; simpa [World.setCell] using this, ?_, ⟨p, hp, World.cell?_setCell_same w _ _ h1⟩, by rw [frozen_setCell]; exact h.f0, by rw [frozen_setCell]; exact h.f1, h.hc, h.hm, ?_⟩
 ·rw [World.cell?_setCell_other w _ _ _ (by simp)]; exact h.c0
 ·exact h.lies.imp id fun ⟨b, off, e, hlt, hn, hz⟩ => ⟨b, off, e, by simpa [World.setCell] using hlt, hn, fun i hi => let ⟨z, h2, h3⟩ := hz i hi; ⟨z, (World.cell?_setCell_other w _ _ _ (fun e => hn (by injection e with e1 _ _; exact e1.symm))).trans h2, h3⟩⟩

theorem Rdr.far {w : World} {g : Nat} {av : Option Addr} {len cap : Nat} (h : Rdr w g av len cap) {p : Addr} (hp : ¬ p.block = g) (hq : len = 0 ∨ ∃ b off, av = some ⟨b, off, none⟩ ∧ ¬ p.block = b) (v : Value) : Rdr (w.setCell p v) g av len cap := by
 obtain ⟨q, hq1, h1⟩ := h.c1
 have ne : ∀ o, p ≠ ⟨g, o, none⟩ := fun o e => hp (by rw [e])
 refine ⟨by have := h.lt; simpa [World.setCell] using this, ?_, ⟨q, hq1, ?_⟩, by rw [frozen_setCell]; exact h.f0, by rw [frozen_setCell]; exact h.f1, h.hc, h.hm, ?_⟩
 ·rw [World.cell?_setCell_other w _ _ _ (ne 0)]; exact h.c0
 ·rw [World.cell?_setCell_other w _ _ _ (ne 1)]; exact h1
 ·rcases hq with hq | ⟨b1, off1, e1, hq⟩
  ·exact Or.inl hq
  ·exact h.lies.imp id fun ⟨b, off, e, hlt, hn, hz⟩ => ⟨b, off, e, by simpa [World.setCell] using hlt, hn, fun i hi => let ⟨z, h2, h3⟩ := hz i hi; ⟨z, (World.cell?_setCell_other w _ _ _ (fun e2 => by
    rw [e1] at e; injection e with e; injection e with e3 _ _
    rw [e2] at hq; exact hq e3.symm)).trans h2, h3⟩⟩

end Go.Proofs.YtgcinolbkllkkaaGreat

namespace Go.Proofs.YtgcinolbkllkkaaGreat
open Go.ChangeShapes Go.WideShapes Go.ChangeAt Go.RowKit
def dcell (ds : List (Int × Int)) (o : Nat) : Value := if o % 2 = 0 then .int .i64 (M1.rg ds (o / 2)) else .int .i64 (M1.nm ds (o / 2))

theorem dcell_even (ds : List (Int × Int)) (k : Nat) : dcell ds (k * 2) = .int .i64 (M1.rg ds k) := by
 unfold dcell; rw [if_pos (by omega), show k * 2 / 2 = k from by omega]

theorem dcell_odd (ds : List (Int × Int)) (k : Nat) : dcell ds (k * 2 + 1) = .int .i64 (M1.nm ds k) := by
 unfold dcell; rw [if_neg (by omega), show (k * 2 + 1) / 2 = k from by omega]

theorem isVec_of_row {w : World} {g n cap : Nat} {ds : List (Int × Int)} (hl : ds.length = n) (hc : n ≤ cap) (hm : cap ≤ maxLen) (h : RowAt w g (n * 2) (dcell ds)) : IsVec w (some ⟨g, 0, none⟩) n cap ds :=
 ⟨hl, hc, hm, Or.inr ⟨g, 0, rfl, h.lt, fun i hi => ⟨by rw [Nat.zero_add, h.cell (by omega), dcell_even], by rw [Nat.zero_add, h.cell (by omega), dcell_odd]⟩⟩⟩

theorem infoDot0 : (Tryz.prog.info? 68).map (fun i => (i.zero, i.size, i.bytes)) = some (some (.agg #[.int .i64 0, .int .i64 0]), 2, 16) := by kernel_rfl

theorem infoDot : ∃ i, Tryz.prog.info? 68 = some i ∧ i.zero = some (.agg #[.int .i64 0, .int .i64 0]) ∧ i.size = 2 ∧ i.bytes = 16 := by
 have h := infoDot0
 cases e : Tryz.prog.info? 68 with
 | none => rw [e] at h; cases h
 | some i => rw [e] at h; simp at h; exact ⟨i, rfl, h.1, h.2.1, h.2.2⟩

set_option maxHeartbeats 1000000 in
theorem toDotS_any (av : Option Addr) (n cn : Nat) (ds : List (Int × Int)) (w : World) (h1 : IsVec w av n cn ds) (hn : n ≤ 1048576) :
  Calls Tryz.prog 107 #[.slice av n cn] w fun e w' => ∃ g, e = .returned (.slice (some ⟨g, 0, none⟩) n n) ∧ w.heap.size ≤ g ∧ RowAt w' g (n * 2) (dcell ds) ∧ Below w.heap.size w w' := by
 have hl1 : Hid (ds.length = n) := h1.hlen
 have hm1 := h1.hcap
 have hm2 := h1.hmost
 unfold maxLen at hm2
 obtain ⟨ti, hi1, hi2, hi3, hi4⟩ := infoDot
 have hi4' : Hid (ti.bytes = 16) := hi4
 have hi2' : Hid (ti.zero = some (.agg #[.int .i64 0, .int .i64 0])) := hi2
 have hi3' : Hid (ti.size = 2) := hi3
 have hi1' : Hid (Tryz.prog.info? 68 = some ti) := hi1
 clear hi1 hi2 hi3 hi4
 go_enter Tryz.func107, Tryz.ntmps107
 go_wp2_with (at_make; refine wpList_make_full _ rfl _ _ _ rfl w.heap.size 68 ti _ 2 Tryz.underlying37 hi1'.out hi2'.out hi3'.out _ _ _ _ n rfl rfl rfl rfl (by rw [hi4'.out]; omega) (by unfold maxLen; omega) (Nat.le_refl _) ?_; intro w1 hown hgrow)
 have hrow0 := RowAt.of_owns hown
 have hB1 : Below w.heap.size w w1 := (Below.refl _ _).grown hgrow (Nat.le_refl _) (fun k e => by cases e)
 clear hown hgrow hi1' hi2' hi3' hi4'
 go_wp2_with fail
 go_loopw [4] (fun i wr => ∃ k : Nat, k ≤ n ∧ i = .int .i64 k ∧ Below w.heap.size w wr ∧ ∃ f, RowAt wr w.heap.size (n * 2) f ∧ Hid (∀ o, o < k * 2 → f o = dcell ds o)) (fun i _ => n - (intOf i).toNat)
 case atStart => exact ⟨0, Nat.zero_le _, rfl, hB1, _, hrow0, fun o ho => absurd ho (by omega)⟩
 case round =>
  clear hrow0 hB1
  obtain ⟨k, hk, rfl, hB, f, hrow, hall⟩ := hrel
  by_cases hlt : k < n
  ·have g1 := h1.below hB
   rcases g1.hlies with h0 | ⟨b, off, rfl, hb, hc⟩
   ·omega
   obtain ⟨c1, c2⟩ := hc k hlt
   clear hc g1
   have i0 : (0 : Int) ≤ (k : Int) := by omega
   have i1 : (k : Int) < (n : Int) := by omega
   go_wp2_with fail
   refine (toDot_any _ _ _).mono ?_
   rintro e w2 ⟨rfl, hb2⟩
   have hrow2 := hrow.below hb2
   have hB2 := hB.trans (hb2.mono hB.size)
   have d1 := hrow2.cell (o := k * 2) (by omega)
   have d2 := hrow2.cell (o := k * 2 + 1) (by omega)
   have d3 := hrow2.free (o := k * 2) (by omega)
   have d4 := hrow2.free (o := k * 2 + 1) (by omega)
   go_wp2_with fail
   refine ⟨⟨k + 1, by omega, by go_num, (hB2.setCell (Nat.le_refl _) _).setCell (Nat.le_refl _) _, _, (hrow2.set (by omega) _).set (by omega) _, fun o ho => ?_⟩, by simp [intOf]; omega⟩
   show (if o = k * 2 + 1 then _ else if o = k * 2 then _ else _) = _
   by_cases e1 : o = k * 2 + 1
   ·rw [if_pos e1, e1, dcell_odd]
   ·rw [if_neg e1]
    by_cases e2 : o = k * 2
    ·rw [if_pos e2, e2, dcell_even]
    ·rw [if_neg e2]; exact hall.out o (by omega)
  ·have hkn : Hid (k = n) := by show k = n; omega
   go_wp2_with fail
   go_ret
   exact ⟨_, rfl, Nat.le_refl _, hrow.same (fun o ho => hall.out o (by have := hkn.out; omega)), hB⟩

end Go.Proofs.YtgcinolbkllkkaaGreat

namespace Go.Proofs.YtgcinolbkllkkaaGreat
open Go.ChangeShapes Go.WideShapes Go.ChangeAt Go.RowKit
theorem owns_below {w w' : World} {base : Nat} {e : TypeId} {size n : Nat} {v : Value} {xs : List Value} (h : w.ownsRow base e size v n xs) (hb : Below w.heap.size w w') : w'.ownsRow base e size v n xs := by
 obtain ⟨h1, h2⟩ := h
 refine ⟨h1, h2.imp id fun ⟨g, cap, cur, hv, hg, hh, r⟩ => ⟨g, cap, cur, hv, hg, ?_, r⟩⟩
 have hlt : g < w.heap.size := by
  rcases Nat.lt_or_ge g w.heap.size with h | h
  ·exact h
  ·rw [Array.getElem?_eq_none h] at hh; cases hh
 rw [hb.block g hlt]; exact hh

theorem owns_base {w : World} {base : Nat} {e : TypeId} {size n : Nat} {v : Value} {xs : List Value} (h : w.ownsRow base e size v n xs) : ∀ k, v.ownBlock = some k → base ≤ k := by
 intro k hk
 rcases h.2 with ⟨rfl, _⟩ | ⟨g, cap, cur, rfl, hg, _⟩
 ·simp [Value.ownBlock] at hk
 ·simp [Value.ownBlock] at hk; omega

theorem owns_less {w : World} {base base' : Nat} {e : TypeId} {size n : Nat} {v : Value} {xs : List Value} (h : w.ownsRow base e size v n xs) (hb : base' ≤ base) : w.ownsRow base' e size v n xs :=
 ⟨h.1, h.2.imp id fun ⟨g, cap, cur, hv, hg, r⟩ => ⟨g, cap, cur, hv, by omega, r⟩⟩

end Go.Proofs.YtgcinolbkllkkaaGreat
