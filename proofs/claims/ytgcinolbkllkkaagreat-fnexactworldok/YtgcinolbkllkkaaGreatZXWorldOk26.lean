/-
  Texts of one proof, joined: Wl1.
-/
import Derived.Test.YtgcinolbkllkkaaGreatZXWorldOk21
import Derived.Test.YtgcinolbkllkkaaGreatZXWorldOk25
import Derived.Test.YtgcinolbkllkkaaGreatZXWorldOk07
import Derived.Test.YtgcinolbkllkkaaGreatZXWorldOk24
namespace M1
def rgA (rs : List Rg) (i : Nat) : Rg := rs.getD i zeroR

end M1
namespace Go.Proofs.YtgcinolbkllkkaaGreat
open Go.ChangeShapes Go.WideShapes Go.ChangeAt Go.RowKit
set_option linter.unusedSimpArgs false
set_option linter.unusedVariables false
def RgC (w : World) (b o : Nat) (r : M1.Rg) : Prop := ∃ (v : Option Addr) (n c : Nat), w.cell? ⟨b, o, none⟩ = some (.int .i64 r.id) ∧ w.cell? ⟨b, o + 1, none⟩ = some (.int .i64 r.a) ∧ w.cell? ⟨b, o + 2, none⟩ = some (.int .i64 r.b) ∧ w.cell? ⟨b, o + 3, none⟩ = some (.int .i64 r.c) ∧ w.cell? ⟨b, o + 4, none⟩ = some (.slice v n c) ∧ IsUpds w v n c r.us

theorem RgC.below {w w' : World} {b o : Nat} {r : M1.Rg} (h : RgC w b o r) (hb : Below w.heap.size w w') (hlt : b < w.heap.size) : RgC w' b o r := by
 obtain ⟨v, n, c, h0, h1, h2, h3, h4, hu⟩ := h
 exact ⟨v, n, c, (hb.cell (p := ⟨b, o, none⟩) hlt).trans h0, (hb.cell (p := ⟨b, o + 1, none⟩) hlt).trans h1, (hb.cell (p := ⟨b, o + 2, none⟩) hlt).trans h2, (hb.cell (p := ⟨b, o + 3, none⟩) hlt).trans h3, (hb.cell (p := ⟨b, o + 4, none⟩) hlt).trans h4, hu.below hb⟩

structure IsRgs (w : World) (av : Option Addr) (len cap : Nat) (rs : List M1.Rg) : Prop where
 hlen : rs.length = len
 hcap : len ≤ cap
 hmost : cap ≤ maxLen
 hlies : len = 0 ∨ ∃ b off, av = some ⟨b, off, none⟩ ∧ b < w.heap.size ∧ ∀ i, i < len → RgC w b (off + i * 5) (M1.rgA rs i)

theorem IsRgs.below {w w' : World} {av : Option Addr} {len cap : Nat} {rs : List M1.Rg} (h : IsRgs w av len cap rs) (hb : Below w.heap.size w w') : IsRgs w' av len cap rs :=
 ⟨h.hlen, h.hcap, h.hmost, h.hlies.imp (fun h => h) fun ⟨b, off, e, hlt, hc⟩ => ⟨b, off, e, Nat.lt_of_lt_of_le hlt hb.size, fun i hi => (hc i hi).below hb hlt⟩⟩

set_option maxHeartbeats 4000000 in
theorem szRegionS_any (av : Option Addr) (n cn : Nat) (rs : List M1.Rg) (left : Int) (w : World) (h1 : IsRgs w av n cn rs) (h0 : 0 ≤ left) (hl : left ≤ 1048576) :
  Calls Tryz.prog 43 #[.slice av n cn, .int .i64 left] w fun e w' => ((∃ r, Hid ((n : Int) ≤ left ∧ ∀ i, i < n → (M1.rgA rs i).us.length ≤ 1048576) ∧ 0 ≤ r ∧ r ≤ left ∧ e = .returned (.int .i64 r)) ∨ e = .returned (.int .i64 (-1))) ∧ Below w.heap.size w w' := by
 have hm1 := h1.hcap
 have hm2 := h1.hmost
 unfold maxLen at hm2
 by_cases hn : (n : Int) ≤ left
 ·go_enter Tryz.func43, Tryz.ntmps43
  go_wp2_with fail
  go_loopw [1, 5] (fun r i wr => ∃ k : Nat, k ≤ n ∧ i = .int .i64 k ∧ Below w.heap.size w wr ∧ Hid (∀ i, i < k → (M1.rgA rs i).us.length ≤ 1048576) ∧ ∃ q : Int, 0 ≤ q ∧ q ≤ left ∧ r = .int .i64 q) (fun _ i _ => n - (intOf i).toNat)
  case atStart => exact ⟨0, Nat.zero_le _, rfl, Below.refl _ _, fun i hi => absurd hi (Nat.not_lt_zero _), left - n, by omega, by omega, rfl⟩
  case round =>
   obtain ⟨k, hk, rfl, hB, hall, q, hq0, hq1, rfl⟩ := hrel
   by_cases hlt : k < n
   ·have g1 := h1.below hB
    rcases g1.hlies with h0 | ⟨b, off, rfl, hb, hc⟩
    ·omega
    obtain ⟨v, m, c, c0, c1, c2, c3, c4, hu⟩ := hc k hlt
    clear hc g1
    have i0 : (0 : Int) ≤ (k : Int) := by omega
    have i1 : (k : Int) < (n : Int) := by omega
    have hum : Hid ((M1.rgA rs k).us.length = m) := hu.hlen
    go_wp2_with fail
    refine (szRegion_any _ _ _ _ _ _ _ _ _ _ hu hq0 (by omega)).mono ?_
    rintro e w2 ⟨⟨r, hm, hr0, hr1, rfl⟩ | rfl, hb2⟩
    ·have hB2 := hB.trans (hb2.mono hB.size)
     have hr2 : ¬ r < 0 := by omega
     have HA : Hid (∀ i, i < k + 1 → (M1.rgA rs i).us.length ≤ 1048576) := fun i hi => by
      by_cases e : i = k
      ·subst e; have := hum.out; omega
      ·exact hall.out i (by omega)
     go_wp2_with fail
     exact ⟨⟨k + 1, by omega, by go_num, hB2, HA, r, hr0, by omega, rfl⟩, by simp [intOf]; omega⟩
    ·have hB2 := hB.trans (hb2.mono hB.size)
     go_wp2_with fail
     go_ret
     exact ⟨Or.inr rfl, hB2⟩
   ·have HN : Hid ((n : Int) ≤ left ∧ ∀ i, i < n → (M1.rgA rs i).us.length ≤ 1048576) := ⟨hn, fun i hi => hall.out i (by omega)⟩
    go_wp2_with fail
    go_ret
    exact ⟨Or.inl ⟨q, HN, hq0, hq1, rfl⟩, hB⟩
 ·go_enter Tryz.func43, Tryz.ntmps43
  go_wp2_with fail
  go_ret
  exact ⟨Or.inr rfl, Below.refl _ _⟩

set_option maxHeartbeats 4000000 in
theorem eqRegionS_self (av bv : Option Addr) (n cn cm : Nat) (rs : List M1.Rg) (w : World) (h1 : IsRgs w av n cn rs) (h2 : IsRgs w bv n cm rs) :
  Calls Tryz.prog 47 #[.slice av n cn, .slice bv n cm] w fun e w' => e = .returned (.bool true) ∧ Below w.heap.size w w' := by
 have hm1 := h1.hcap
 have hm2 := h1.hmost
 have hm3 := h2.hcap
 have hm4 := h2.hmost
 unfold maxLen at hm2 hm4
 have hnb : ((n : Int) != (n : Int)) = false := by simp
 go_enter Tryz.func47, Tryz.ntmps47
 go_wp2
 go_loopw [5] (fun i wr => ∃ k : Nat, k ≤ n ∧ i = .int .i64 k ∧ Below w.heap.size w wr) (fun i _ => n - (intOf i).toNat)
 case atStart => exact ⟨0, Nat.zero_le _, rfl, Below.refl _ _⟩
 case round =>
  obtain ⟨k, hk, rfl, hB⟩ := hrel
  by_cases hlt : k < n
  ·have g1 := h1.below hB
   have g2 := h2.below hB
   rcases g1.hlies with h0 | ⟨b, off, rfl, hb, hc⟩
   ·omega
   rcases g2.hlies with h0 | ⟨b2, off2, rfl, hb2, hc2⟩
   ·omega
   obtain ⟨v, m, c, c0, c1, c2, c3, c4, hu⟩ := hc k hlt
   obtain ⟨v2, m2, c', d0, d1, d2, d3, d4, hu2⟩ := hc2 k hlt
   obtain rfl : m = m2 := hu.hlen.symm.trans hu2.hlen
   clear hc hc2 g1 g2
   have i0 : (0 : Int) ≤ (k : Int) := by omega
   have i1 : (k : Int) < (n : Int) := by omega
   obtain ⟨r, hr⟩ : ∃ r, Hid (M1.rgA rs k = r) := ⟨_, rfl⟩
   rw [hr.out] at c0 c1 c2 c3 d0 d1 d2 d3 hu hu2
   go_wp2_with fail
   refine wp_region_held_drew (S := fun w' => Kp wr w') (by kernel_rfl) ?_ (fun hHeld => ?_)
   ·exact kp_zero _
   refine tZ (i:=0) (v:=?_) rfl (.inl ⟨by rfl, ?_⟩) hHeld ?_
   rotate_left
   ·(intro w hSw; (try dsimp only at hSw); go_simp; try (with_reducible rfl))
   (try simp only [Act.put, zZ])
   refine tZ (i:=1) (v:=?_) rfl (.inl ⟨by rfl, ?_⟩) hHeld ?_
   rotate_left
   ·(intro w hSw; (try dsimp only at hSw); go_simp; try (with_reducible rfl))
   (try simp only [Act.put, zZ])
   refine tZ (i:=2) (v:=?_) rfl (.inl ⟨by rfl, ?_⟩) hHeld ?_
   rotate_left
   ·(intro w hSw; (try dsimp only at hSw); go_simp; try (with_reducible rfl))
   (try simp only [Act.put, zZ])
   refine tZ (i:=3) (v:=?_) rfl (.inl ⟨by rfl, ?_⟩) hHeld ?_
   rotate_left
   ·(intro w hSw; (try dsimp only at hSw); go_simp; try (with_reducible rfl))
   (try simp only [Act.put, zZ])
   refine tZ (i:=4) (v:=?_) rfl (.inl ⟨by rfl, ?_⟩) hHeld ?_
   rotate_left
   ·(intro w hSw; (try dsimp only at hSw); go_simp; try (with_reducible rfl))
   (try simp only [Act.put, zZ])
   refine tZ (i:=5) (v:=?_) rfl (.inl ⟨by rfl, ?_⟩) hHeld ?_
   rotate_left
   ·(intro w hSw; (try dsimp only at hSw); go_simp; try (with_reducible rfl))
   (try simp only [Act.put, zZ])
   refine tZ (i:=6) (v:=?_) rfl (.inl ⟨by rfl, ?_⟩) hHeld ?_
   rotate_left
   ·(intro w hSw; (try dsimp only at hSw); go_simp; try (with_reducible rfl))
   (try simp only [Act.put, zZ])
   refine tZ (i:=7) (v:=?_) rfl (.inl ⟨by rfl, ?_⟩) hHeld ?_
   rotate_left
   ·(intro w hSw; (try dsimp only at hSw); go_simp; try (with_reducible rfl))
   (try simp only [Act.put, zZ])
   refine wpAnyH_ready (rs := [8]) (by kernel_rfl) (by simp) ?_
   refine AllReadyH.cons (o := _) rfl (fun K hK => ?_) AllReadyH.nil
   go_simp
   (refine (eqRegion_self r.id r.a r.b r.c _ _ _ _ _ _ _ (hu.below hHeld.1) (hu2.below hHeld.1)).mono ?_; rintro e w2 ⟨rfl, hb3⟩; go_wp2_with fail)
   refine hK.out _ _ ?_ (fun hHeld2 => ?_)
   ·exact kp_step hHeld hb3
   clear hK K hHeld
   have hHeld := hHeld2
   clear hHeld2
   (try simp only [Act.put, zZ])
   refine tZ (i:=9) (v:=?_) rfl (.inl ⟨by rfl, ?_⟩) hHeld ?_
   rotate_left
   ·(intro w hSw; (try dsimp only at hSw); go_simp; try (with_reducible rfl))
   (try simp only [Act.put, zZ])
   refine wpAnyH_done (by kernel_rfl) ?_ _
   have hB' := hB.trans (hHeld.1.mono hB.size)
   clear hHeld
   go_wp2_with fail
   exact ⟨⟨k + 1, by omega, by go_num, hB'⟩, by simp [intOf]; omega⟩
  ·go_wp2_with fail
   go_ret
   exact ⟨rfl, hB⟩

theorem infoRegA0 : (Tryz.prog.info? 34).map (fun i => (i.zero, i.size, i.bytes)) = some (some (.agg #[.int .i64 0, .int .i64 0, .int .i64 0, .int .i64 0, .slice none 0 0]), 5, 56) := by kernel_rfl

theorem infoRegA : ∃ i, Tryz.prog.info? 34 = some i ∧ i.zero = some (.agg #[.int .i64 0, .int .i64 0, .int .i64 0, .int .i64 0, .slice none 0 0]) ∧ i.size = 5 ∧ i.bytes = 56 := by
 have h := infoRegA0
 cases e : Tryz.prog.info? 34 with
 | none => rw [e] at h; cases h
 | some i => rw [e] at h; simp at h; exact ⟨i, rfl, h.1, h.2.1, h.2.2⟩

theorem row_blockA {w w' : World} {g m : Nat} {f : Nat → Value} (h : RowAt w g m f) (hb : w'.heap[g]? = w.heap[g]?) (hs : w.heap.size ≤ w'.heap.size) : RowAt w' g m f :=
 ⟨Nat.lt_of_lt_of_le h.1 hs, fun o ho => ⟨(World.cell?_of_block (w := w) hb).trans (h.2 o ho).1, (World.frozen?_of_block (w := w) hb).trans (h.2 o ho).2⟩⟩

def Same (lo : Nat) (w w' : World) : Prop := w.heap.size ≤ w'.heap.size ∧ ∀ k, lo ≤ k → k < w.heap.size → w'.heap[k]? = w.heap[k]?

theorem Same.refl (lo : Nat) (w : World) : Same lo w w := ⟨Nat.le_refl _, fun _ _ _ => rfl⟩

theorem Same.trans {lo : Nat} {a b c : World} (h : Same lo a b) (k : Same lo b c) : Same lo a c := ⟨Nat.le_trans h.1 k.1, fun i hi hl => (k.2 i hi (Nat.lt_of_lt_of_le hl h.1)).trans (h.2 i hi hl)⟩

theorem Same.below {lo : Nat} {a b : World} (h : Below a.heap.size a b) : Same lo a b := ⟨h.size, fun k _ hk => h.block k hk⟩

theorem Same.set {lo : Nat} {a b : World} (h : Same lo a b) {p : Addr} (hp : p.block < lo) (v : Value) : Same lo a (b.setCell p v) := ⟨Nat.le_trans h.1 (Nat.le_of_eq (by simp [World.setCell])), fun k hk hl => (Below.heap_setCell _ _ _ _ (by omega)).trans (h.2 k hk hl)⟩

theorem row_same {lo : Nat} {w w' : World} {g m : Nat} {f : Nat → Value} (h : RowAt w g m f) (hl : lo ≤ g) (hS : Same lo w w') : RowAt w' g m f := row_blockA h (hS.2 g hl h.lt) hS.1

def RgF (w : World) (g : Nat) (rs : List M1.Rg) (k : Nat) (f : Nat → Value) : Prop := ∀ i, i < k → ∃ d n, g < d ∧ f (i * 5) = .int .i64 (M1.rgA rs i).id ∧ f (i * 5 + 1) = .int .i64 (M1.rgA rs i).a ∧ f (i * 5 + 2) = .int .i64 (M1.rgA rs i).b ∧ f (i * 5 + 3) = .int .i64 (M1.rgA rs i).c ∧ f (i * 5 + 4) = .slice (some ⟨d, 0, none⟩) n n ∧ (M1.rgA rs i).us.length = n ∧ RowAt w d (n * 13) (ucell (M1.rgA rs i).us)

theorem RgF.below {w w' : World} {g : Nat} {rs : List M1.Rg} {k : Nat} {f : Nat → Value} (h : RgF w g rs k f) (hb : Below w.heap.size w w') : RgF w' g rs k f := fun i hi => by
 obtain ⟨d, n, h0, h1, h2, h3, h4, h5, h6, r⟩ := h i hi
 exact ⟨d, n, h0, h1, h2, h3, h4, h5, h6, r.below hb⟩

set_option maxHeartbeats 4000000 in
set_option maxRecDepth 100000 in
theorem toRegionS_any (av : Option Addr) (n cn : Nat) (rs : List M1.Rg) (w : World) (h1 : IsRgs w av n cn rs) (hn : n ≤ 1048576) (hus : Hid (∀ i, i < n → (M1.rgA rs i).us.length ≤ 1048576)) (htx : Hid (∀ i, i < n → ∀ j, j < (M1.rgA rs i).us.length → (M1.up (M1.rgA rs i).us j).s.size ≤ maxLen)) :
  Calls Tryz.prog 45 #[.slice av n cn] w fun e w' => ∃ g, e = .returned (.slice (some ⟨g, 0, none⟩) n n) ∧ w.heap.size ≤ g ∧ IsRgs w' (some ⟨g, 0, none⟩) n n rs ∧ Hid (∀ w'', Same w.heap.size w' w'' → IsRgs w'' (some ⟨g, 0, none⟩) n n rs) ∧ Below w.heap.size w w' := by
 have hm1 := h1.hcap
 have hm2 := h1.hmost
 unfold maxLen at hm2
 obtain ⟨ti, hi1, hi2, hi3, hi4⟩ := infoRegA
 have hi4' : Hid (ti.bytes = 56) := hi4
 have hi2' : Hid (ti.zero = some (.agg #[.int .i64 0, .int .i64 0, .int .i64 0, .int .i64 0, .slice none 0 0])) := hi2
 have hi3' : Hid (ti.size = 5) := hi3
 have hi1' : Hid (Tryz.prog.info? 34 = some ti) := hi1
 clear hi1 hi2 hi3 hi4
 go_enter Tryz.func45, Tryz.ntmps45
 go_wp2_with (at_make; refine wpList_make_full _ rfl _ _ _ rfl w.heap.size 34 ti _ 5 Tryz.underlying24 hi1'.out hi2'.out hi3'.out _ _ _ _ n rfl rfl rfl rfl (by rw [hi4'.out]; omega) (by unfold maxLen; omega) (Nat.le_refl _) ?_; intro w1 hown hgrow)
 have hrow0 := RowAt.of_owns hown
 have hB1 : Below w.heap.size w w1 := (Below.refl _ _).grown hgrow (Nat.le_refl _) (fun k e => by cases e)
 clear hown hgrow hi1' hi2' hi3' hi4'
 obtain ⟨g, hg⟩ : ∃ g, Hid (w.heap.size = g) := ⟨_, rfl⟩
 have hgw : w.heap.size ≤ g := by have := hg.out; omega
 rw [hg.out] at hrow0
 (try rw [hg.out])
 have hgl := hrow0.lt
 go_wp2_with fail
 go_loopw [4] (fun i wr => ∃ k : Nat, k ≤ n ∧ i = .int .i64 k ∧ Below w.heap.size w wr ∧ ∃ f, RowAt wr g (n * 5) f ∧ Hid (RgF wr g rs k f)) (fun i _ => n - (intOf i).toNat)
 case atStart => exact ⟨0, Nat.zero_le _, rfl, hB1, _, hrow0, fun i hi => absurd hi (Nat.not_lt_zero _)⟩
 case round =>
  clear hrow0 hB1 hgl
  obtain ⟨k, hk, rfl, hB, f, hrow, hall⟩ := hrel
  by_cases hlt : k < n
  ·have g1 := h1.below hB
   rcases g1.hlies with h0 | ⟨b, off, rfl, hb, hc⟩
   ·omega
   obtain ⟨v, m, c, c0, c1, c2, c3, c4, hu⟩ := hc k hlt
   clear hc g1
   have i0 : (0 : Int) ≤ (k : Int) := by omega
   have i1 : (k : Int) < (n : Int) := by omega
   have hum : Hid ((M1.rgA rs k).us.length = m) := hu.hlen
   have hm9 : m ≤ 1048576 := by have := hus.out k hlt; have := hum.out; omega
   have hgr := hrow.lt
   obtain ⟨r, hr⟩ : ∃ r, Hid (M1.rgA rs k = r) := ⟨_, rfl⟩
   rw [hr.out] at c0 c1 c2 c3 hu hum
   go_wp2_with fail
   refine (toRegion_any r.id r.a r.b r.c _ _ _ _ _ hu hm9).mono ?_
   rintro e w2 ⟨d, rfl, hd, rowd, hb2⟩
   have hrow2 := hrow.below hb2
   have hB2 := hB.trans (hb2.mono hB.size)
   have hall2 : Hid (RgF w2 g rs k f) := hall.out.below hb2
   have hdg : g < d := by omega
   have hgl2 := hrow2.lt
   have d0 := hrow2.cell (o := k * 5) (by omega)
   have f0 := hrow2.free (o := k * 5) (by omega)
   have d1 := hrow2.cell (o := k * 5 + 1) (by omega)
   have f1 := hrow2.free (o := k * 5 + 1) (by omega)
   have d2 := hrow2.cell (o := k * 5 + 2) (by omega)
   have f2 := hrow2.free (o := k * 5 + 2) (by omega)
   have d3 := hrow2.cell (o := k * 5 + 3) (by omega)
   have f3 := hrow2.free (o := k * 5 + 3) (by omega)
   have d4 := hrow2.cell (o := k * 5 + 4) (by omega)
   have f4 := hrow2.free (o := k * 5 + 4) (by omega)
   clear c0 c1 c2 c3 c4
   go_wp2_with fail
   refine ⟨⟨k + 1, by omega, by go_num, ((((hB2.setCell hgw _).setCell hgw _).setCell hgw _).setCell hgw _).setCell hgw _, _, ((((hrow2.set (o := k * 5) (by omega) _).set (o := k * 5 + 1) (by omega) _).set (o := k * 5 + 2) (by omega) _).set (o := k * 5 + 3) (by omega) _).set (o := k * 5 + 4) (by omega) _, fun i hi => ?_⟩, by simp [intOf]; omega⟩
   by_cases e : i = k
   ·subst e
    refine ⟨d, m, hdg, ?_, ?_, ?_, ?_, ?_, by rw [hr.out]; exact hum.out, ?_⟩
    ·rw [hr.out]; simp
    ·rw [hr.out]; simp
    ·rw [hr.out]; simp
    ·rw [hr.out]; simp
    ·simp
    ·rw [hr.out]
     exact ((((rowd.far (p := ⟨g, _, none⟩) (by show g ≠ d; omega) _).far (p := ⟨g, _, none⟩) (by show g ≠ d; omega) _).far (p := ⟨g, _, none⟩) (by show g ≠ d; omega) _).far (p := ⟨g, _, none⟩) (by show g ≠ d; omega) _).far (p := ⟨g, _, none⟩) (by show g ≠ d; omega) _
   ·obtain ⟨d', n', h0, q1, q2, q3, q4, q5, q6, r'⟩ := hall2.out i (by omega)
    have hne : ∀ j j', j < 5 → j' < 5 → ¬ i * 5 + j = k * 5 + j' := fun j j' hj hj' => by omega
    refine ⟨d', n', h0, ?_, ?_, ?_, ?_, ?_, q6, ?_⟩
    ·have := hne 0; simp at this; simp only [if_neg (show ¬ i * 5 = k * 5 by omega), if_neg (show ¬ i * 5 = k * 5 + 1 by omega), if_neg (show ¬ i * 5 = k * 5 + 2 by omega), if_neg (show ¬ i * 5 = k * 5 + 3 by omega), if_neg (show ¬ i * 5 = k * 5 + 4 by omega)]; exact q1
    ·simp only [if_neg (show ¬ i * 5 + 1 = k * 5 by omega), if_neg (show ¬ i * 5 + 1 = k * 5 + 1 by omega), if_neg (show ¬ i * 5 + 1 = k * 5 + 2 by omega), if_neg (show ¬ i * 5 + 1 = k * 5 + 3 by omega), if_neg (show ¬ i * 5 + 1 = k * 5 + 4 by omega)]; exact q2
    ·simp only [if_neg (show ¬ i * 5 + 2 = k * 5 by omega), if_neg (show ¬ i * 5 + 2 = k * 5 + 1 by omega), if_neg (show ¬ i * 5 + 2 = k * 5 + 2 by omega), if_neg (show ¬ i * 5 + 2 = k * 5 + 3 by omega), if_neg (show ¬ i * 5 + 2 = k * 5 + 4 by omega)]; exact q3
    ·simp only [if_neg (show ¬ i * 5 + 3 = k * 5 by omega), if_neg (show ¬ i * 5 + 3 = k * 5 + 1 by omega), if_neg (show ¬ i * 5 + 3 = k * 5 + 2 by omega), if_neg (show ¬ i * 5 + 3 = k * 5 + 3 by omega), if_neg (show ¬ i * 5 + 3 = k * 5 + 4 by omega)]; exact q4
    ·simp only [if_neg (show ¬ i * 5 + 4 = k * 5 by omega), if_neg (show ¬ i * 5 + 4 = k * 5 + 1 by omega), if_neg (show ¬ i * 5 + 4 = k * 5 + 2 by omega), if_neg (show ¬ i * 5 + 4 = k * 5 + 3 by omega), if_neg (show ¬ i * 5 + 4 = k * 5 + 4 by omega)]; exact q5
    ·exact ((((r'.far (p := ⟨g, _, none⟩) (by show g ≠ d'; omega) _).far (p := ⟨g, _, none⟩) (by show g ≠ d'; omega) _).far (p := ⟨g, _, none⟩) (by show g ≠ d'; omega) _).far (p := ⟨g, _, none⟩) (by show g ≠ d'; omega) _).far (p := ⟨g, _, none⟩) (by show g ≠ d'; omega) _
  ·have hkn : Hid (k = n) := by show k = n; omega
   have hgl9 := hrow.lt
   have HR : Hid (∀ w'', Same w.heap.size wr w'' → IsRgs w'' (some ⟨g, 0, none⟩) n n rs) := (fun w'' hS => ⟨h1.hlen, Nat.le_refl _, by unfold maxLen; omega, Or.inr ⟨g, 0, rfl, Nat.lt_of_lt_of_le hgl9 hS.1, fun i hi => by
    obtain ⟨d', n', h0, q1, q2, q3, q4, q5, q6, r'⟩ := hall.out i (by have := hkn.out; omega)
    refine ⟨some ⟨d', 0, none⟩, n', n', ?_, ?_, ?_, ?_, ?_, isUpds_of_row q6 (Nat.le_refl _) (by have := hus.out i hi; unfold maxLen; omega) (fun j hj => htx.out i hi j (by rw [q6]; exact hj)) (row_same r' (by omega) hS)⟩
    ·rw [Nat.zero_add, ← q1]; exact (row_same hrow hgw hS).cell (o := i * 5) (by omega)
    ·rw [Nat.zero_add, ← q2]; exact (row_same hrow hgw hS).cell (o := i * 5 + 1) (by omega)
    ·rw [Nat.zero_add, ← q3]; exact (row_same hrow hgw hS).cell (o := i * 5 + 2) (by omega)
    ·rw [Nat.zero_add, ← q4]; exact (row_same hrow hgw hS).cell (o := i * 5 + 3) (by omega)
    ·rw [Nat.zero_add, ← q5]; exact (row_same hrow hgw hS).cell (o := i * 5 + 4) (by omega)⟩⟩ : ∀ w'', Same w.heap.size wr w'' → IsRgs w'' (some ⟨g, 0, none⟩) n n rs)
   go_wp2_with fail
   go_ret
   exact ⟨_, rfl, hgw, HR.out _ (Same.refl _ _), HR, hB⟩

end Go.Proofs.YtgcinolbkllkkaaGreat
