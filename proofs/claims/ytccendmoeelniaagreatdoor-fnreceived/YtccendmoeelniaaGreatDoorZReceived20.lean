/-
  Texts of one proof, joined: Dots, VecU, Rv1.
-/
import Derived.Test.YtccendmoeelniaaGreatDoorZReceived01
import Derived.Test.YtccendmoeelniaaGreatDoorZReceived03
import Derived.Test.YtccendmoeelniaaGreatDoorZReceived00
import Derived.Test.YtccendmoeelniaaGreatDoorZReceived15
import Derived.Test.YtccendmoeelniaaGreatDoorZReceived08
import Derived.Test.YtccendmoeelniaaGreatDoorZReceived18
import Derived.Test.YtccendmoeelniaaGreatDoorZReceived13
import Derived.Test.YtccendmoeelniaaGreatDoorZReceived19
import Derived.Test.YtccendmoeelniaaGreatDoorZReceived02
namespace Go.Proofs.YtccendmoeelniaaGreatDoor
open Go.ChangeShapes Go.WideShapes Go.ChangeAt Go.RowKit
def Joined (w w' : World) (e : Ending) (ds : List (Int × Int)) : Prop := ∃ v, e = .returned v ∧ w'.ownsRow w.heap.size 36 2 v ds.length (dcs ds)

end Go.Proofs.YtccendmoeelniaaGreatDoor

namespace Go.Proofs.YtccendmoeelniaaGreatDoor
open Go.ChangeShapes Go.WideShapes Go.ChangeAt Go.RowKit
set_option linter.unusedSimpArgs false
set_option maxHeartbeats 4000000 in
set_option maxRecDepth 100000 in
theorem lastOf_any (av : Option Addr) (n cn : Nat) (us : List M1.Upd) (w : World) (h1 : IsUpds w av n cn us) (hr : Hid (∀ j, j < n → 1 ≤ (M1.up us j).dr ∧ (M1.up us j).dr ≤ 5)) :
    Calls Tryz.prog 57 #[.slice av n cn] w fun e w' => e = .returned (.agg #[.int .i64 (M1.lastN us n 1), .int .i64 (M1.lastN us n 2), .int .i64 (M1.lastN us n 3), .int .i64 (M1.lastN us n 4), .int .i64 (M1.lastN us n 5)]) ∧ Below w.heap.size w w' := by
  have hm1 := h1.hcap
  have hm2 := h1.hmost
  unfold maxLen at hm2
  go_enter Tryz.func57, Tryz.ntmps57
  go_wp2_with fail
  go_loopw [8] (fun i wr => ∃ k : Nat, k ≤ n ∧ i = .int .i64 k ∧ Below w.heap.size w wr ∧ RowAt wr w.heap.size 5 (fun _ => .int .i64 0) ∧ RowAt wr (w.heap.size + 1) 5 (fun o => .int .i64 (M1.lastN us k (o + 1)))) (fun i _ => n - (intOf i).toNat)
  case atStart =>
    refine ⟨0, Nat.zero_le _, rfl, ?_, ?_, ?_⟩
    · repeat (first | (with_reducible exact Below.refl _ _) | ((with_reducible refine Below.setCell ?_ ?_ _); rotate_left; (focus (first | omega | (simp; done) | (simp; omega)))) | ((with_reducible refine Below.alloc ?_ ?_ _); rotate_left; (focus (first | omega | (simp; done) | (simp; omega)))) | (with_reducible refine Below.drew ?_))
    · exact (RowAt.zero5 _ _ _ (fun _ => rfl)).alloc _
    · have := RowAt.zero5 (w.alloc (.cells #[.int .i64 0, .int .i64 0, .int .i64 0, .int .i64 0, .int .i64 0] 96)) 96 (fun o => .int .i64 (M1.lastN us 0 (o + 1))) (fun _ => rfl)
      simpa using this
  case round =>
    obtain ⟨k, hk, rfl, hB, hr0, hr1⟩ := hrel
    have hs0 := hr0.lt
    have hs1 := hr1.lt
    by_cases hlt : k < n
    · have g1 := h1.below hB
      rcases g1.hlies with h0 | ⟨b, off, rfl, hb, hc⟩
      · omega
      obtain ⟨c0, c1, c2, c3, c4, c5, c6, c7, c8, c9, c10, c11, c12⟩ := hc k hlt
      obtain ⟨q1, q2⟩ := hr.out k hlt
      have i0 : (0 : Int) ≤ (k : Int) := by omega
      have i1 : (k : Int) < (n : Int) := by omega
      clear hc g1
      have hr0' := hr0.alloc (.cells #[.int .i64 (M1.up us k).dr, .int .i64 (M1.up us k).dn, .int .i64 (M1.up us k).sw, .int .i64 (M1.up us k).sc, .int .i64 (M1.up us k).sr, .int .i64 (M1.up us k).k, .int .i64 (M1.up us k).tr, .int .i64 (M1.up us k).id, .int .i64 (M1.up us k).pa, .string (M1.up us k).s, .int .i64 (M1.up us k).st, .int .i64 (M1.up us k).en, .int .i64 (M1.up us k).lv] 38)
      have hr1' := hr1.alloc (.cells #[.int .i64 (M1.up us k).dr, .int .i64 (M1.up us k).dn, .int .i64 (M1.up us k).sw, .int .i64 (M1.up us k).sc, .int .i64 (M1.up us k).sr, .int .i64 (M1.up us k).k, .int .i64 (M1.up us k).tr, .int .i64 (M1.up us k).id, .int .i64 (M1.up us k).pa, .string (M1.up us k).s, .int .i64 (M1.up us k).st, .int .i64 (M1.up us k).en, .int .i64 (M1.up us k).lv] 38)
      have ht : ((M1.up us k).dr.toNat - 1) < 5 := by omega
      have d1 := hr1.cell (o := ((M1.up us k).dr.toNat - 1)) ht
      have d2 := hr1.free (o := ((M1.up us k).dr.toNat - 1)) ht
      have hne : ¬ w.heap.size + 1 = wr.heap.size := by omega
      go_wp2_with fail
      refine ⟨⟨k + 1, by omega, by go_num, ?_, ?_, ?_⟩, by simp [intOf]; omega⟩
      · repeat (first | (with_reducible exact Below.refl _ _) | ((with_reducible refine Below.setCell ?_ ?_ _); rotate_left; (focus (first | omega | (simp; done) | (simp; omega)))) | ((with_reducible refine Below.alloc ?_ ?_ _); rotate_left; (focus (first | omega | (simp; done) | (simp; omega)))) | (with_reducible refine Below.drew ?_) | ((with_reducible refine Below.trans ?_ (Below.mono hB ?_)); rotate_left; (focus (first | omega | (simp; done) | (simp; omega)))))
      · exact (hr0.far (by simp) _).alloc _
      · refine ((hr1.set ht _).alloc _).same fun o ho => ?_
        show (if o = ((M1.up us k).dr.toNat - 1) then _ else _) = _
        rw [M1.lastN_succ]
        by_cases e : o = ((M1.up us k).dr.toNat - 1)
        · rw [if_pos e, if_pos (by omega)]
        · rw [if_neg e, if_neg (by omega)]
    · have hkn : Hid (k = n) := (by omega : k = n)
      have z0 := hr0.cell (o := 0) (by omega)
      have z1 := hr0.cell (o := 1) (by omega)
      have z2 := hr0.cell (o := 2) (by omega)
      have z3 := hr0.cell (o := 3) (by omega)
      have z4 := hr0.cell (o := 4) (by omega)
      have y0 := hr0.free (o := 0) (by omega)
      have y1 := hr0.free (o := 1) (by omega)
      have y2 := hr0.free (o := 2) (by omega)
      have y3 := hr0.free (o := 3) (by omega)
      have y4 := hr0.free (o := 4) (by omega)
      have d0 := hr1.cell (o := 0) (by omega)
      have d1 := hr1.cell (o := 1) (by omega)
      have d2 := hr1.cell (o := 2) (by omega)
      have d3 := hr1.cell (o := 3) (by omega)
      have d4 := hr1.cell (o := 4) (by omega)
      go_wp2_with fail
      refine bodyPost_ret (v := .agg #[.int .i64 (M1.lastN us n 1), .int .i64 (M1.lastN us n 2), .int .i64 (M1.lastN us n 3), .int .i64 (M1.lastN us n 4), .int .i64 (M1.lastN us n 5)]) ?_ rfl ⟨rfl, ?_⟩
      · rw [← hkn.out]
        simp [results, Tryz.results57, go_sem, cell_set_same, *]
      · repeat (first | (with_reducible exact Below.refl _ _) | ((with_reducible refine Below.setCell ?_ ?_ _); rotate_left; (focus (first | omega | (simp; done) | (simp; omega)))) | ((with_reducible refine Below.alloc ?_ ?_ _); rotate_left; (focus (first | omega | (simp; done) | (simp; omega)))) | (with_reducible refine Below.drew ?_) | ((with_reducible refine Below.trans ?_ (Below.mono hB ?_)); rotate_left; (focus (first | omega | (simp; done) | (simp; omega)))))

end Go.Proofs.YtccendmoeelniaaGreatDoor

namespace Go.Proofs.YtccendmoeelniaaGreatDoor
open Go.ChangeShapes Go.WideShapes Go.ChangeAt Go.RowKit
set_option linter.unusedSimpArgs false
set_option linter.unusedVariables false
abbrev Rfs (w : World) (r : Nat) (s : Addr) (left : Option Addr) : Prop := RowAt w r 2 (fun o => [es s, .pointer left].getD o undef)

theorem rfs_new (w : World) (s : Addr) (left : Option Addr) : Rfs (w.alloc (.cells #[es s, .pointer left] 128)) w.heap.size s left :=
  (RowAt.new w #[es s, .pointer left] 128).same fun o ho => by
    match o, ho with
    | 0, _ => rfl
    | 1, _ => rfl

theorem refuse_any (p : Addr) (s : Addr) (w : World) :
    Calls Tryz.prog 85 #[.pointer (some p), es s] w fun e w' => ∃ r, e = .returned (.iface 126 (.pointer (some ⟨r, 0, none⟩))) ∧ Rfs w' r s (some p) ∧ w.heap.size ≤ r ∧ Below w.heap.size w w' := by
  have h1 := rfs_new w s (some p)
  go_enter Tryz.func85, Tryz.ntmps85
  go_wp2_with fail
  go_ret
  exact ⟨w.heap.size, rfl, h1, Nat.le_refl _, (Below.refl _ _).alloc (Nat.le_refl _) _⟩

abbrev StAt (w : World) (p : Nat) (a b c : Int) : Prop := RowAt w p 3 (fun o => [.int .i64 a, .int .i64 b, .int .i64 c].getD o undef)

theorem st_new (w : World) (a b c : Int) (t : TypeId) : StAt (w.alloc (.cells #[.int .i64 a, .int .i64 b, .int .i64 c] t)) w.heap.size a b c :=
  (RowAt.new w #[.int .i64 a, .int .i64 b, .int .i64 c] t).same fun o ho => by
    match o, ho with
    | 0, _ => rfl
    | 1, _ => rfl
    | 2, _ => rfl

theorem StAt.cells {w : World} {p : Nat} {a b c : Int} (h : StAt w p a b c) : w.cell? ⟨p, 0, none⟩ = some (.int .i64 a) ∧ w.cell? ⟨p, 1, none⟩ = some (.int .i64 b) ∧ w.cell? ⟨p, 2, none⟩ = some (.int .i64 c) := ⟨h.cell (o := 0) (by omega), h.cell (o := 1) (by omega), h.cell (o := 2) (by omega)⟩

theorem StAt.frees {w : World} {p : Nat} {a b c : Int} (h : StAt w p a b c) : w.frozen? ⟨p, 0, none⟩ = false ∧ w.frozen? ⟨p, 1, none⟩ = false ∧ w.frozen? ⟨p, 2, none⟩ = false := ⟨h.free (o := 0) (by omega), h.free (o := 1) (by omega), h.free (o := 2) (by omega)⟩

theorem StAt.put {w : World} {p : Nat} {a b c : Int} (h : StAt w p a b c) (x y z : Int) : StAt (((w.setCell ⟨p, 0, none⟩ (.int .i64 x)).setCell ⟨p, 1, none⟩ (.int .i64 y)).setCell ⟨p, 2, none⟩ (.int .i64 z)) p x y z :=
  RowAt.same (((h.set (o := 0) (by omega) (.int .i64 x)).set (o := 1) (by omega) (.int .i64 y)).set (o := 2) (by omega) (.int .i64 z)) fun o ho => by
    match o, ho with
    | 0, _ => rfl
    | 1, _ => rfl
    | 2, _ => rfl

theorem bel_put3 {a w : World} {B r : Nat} (h : Below B a w) (hr : B ≤ r) (x y z : Int) : Below B a (((w.setCell ⟨r, 0, none⟩ (.int .i64 x)).setCell ⟨r, 1, none⟩ (.int .i64 y)).setCell ⟨r, 2, none⟩ (.int .i64 z)) :=
  ((h.setCell (p := ⟨r, 0, none⟩) hr _).setCell (p := ⟨r, 1, none⟩) hr _).setCell (p := ⟨r, 2, none⟩) hr _

set_option maxHeartbeats 8000000 in
set_option maxRecDepth 100000 in
theorem metAll_any (a b c now : Int) (bv : Option Addr) (m cm : Nat) (ys : List M1.Upd) (w : World) (h2 : IsUpds w bv m cm ys) :
    Calls Tryz.prog 102 #[.agg #[.int .i64 a, .int .i64 b, .int .i64 c], .slice bv m cm, .int .i64 now] w fun e w' => (∃ x y z, e = .returned (.tuple #[.agg #[.int .i64 x, .int .i64 y, .int .i64 z], .bool (M1.mtTo a b c now ys m).ok]) ∧ ((M1.mtTo a b c now ys m).ok = true → x = (M1.mtTo a b c now ys m).a ∧ y = (M1.mtTo a b c now ys m).b ∧ z = (M1.mtTo a b c now ys m).c)) ∧ Below w.heap.size w w' := by
  have hm3 := h2.hcap
  have hm4 := h2.hmost
  unfold maxLen at hm4
  have hA : Below w.heap.size w ((w.alloc (.cells #[.int .i64 a, .int .i64 b, .int .i64 c] 25)).alloc (.cells #[.int .i64 0, .int .i64 0, .int .i64 0] 25)) := ((Below.refl _ _).alloc (Nat.le_refl _) _).alloc (by simp) _
  have p0 : StAt ((w.alloc (.cells #[.int .i64 a, .int .i64 b, .int .i64 c] 25)).alloc (.cells #[.int .i64 0, .int .i64 0, .int .i64 0] 25)) w.heap.size a b c := (st_new w a b c _).alloc _
  have q0 : StAt ((w.alloc (.cells #[.int .i64 a, .int .i64 b, .int .i64 c] 25)).alloc (.cells #[.int .i64 0, .int .i64 0, .int .i64 0] 25)) (w.heap.size + 1) 0 0 0 := by
    have := st_new (w.alloc (.cells #[.int .i64 a, .int .i64 b, .int .i64 c] 25)) 0 0 0 25
    simp only [World.size_alloc] at this
    exact this
  go_enter Tryz.func102, Tryz.ntmps102
  go_upto_region 1 with fail
  obtain ⟨W0, hW0⟩ : ∃ W, (w.alloc (.cells #[.int .i64 a, .int .i64 b, .int .i64 c] 25)).alloc (.cells #[.int .i64 0, .int .i64 0, .int .i64 0] 25) = W := ⟨_, rfl⟩
  rw [hW0] at hA p0 q0 ⊢
  clear hW0
  obtain ⟨p, hp⟩ : ∃ p, Hid (w.heap.size = p) := ⟨_, rfl⟩
  obtain ⟨q, hq⟩ : ∃ q, Hid (w.heap.size + 1 = q) := ⟨_, rfl⟩
  have hpw : w.heap.size ≤ p := by have := hp.out; omega
  have hqw : w.heap.size ≤ q := by have := hq.out; omega
  have hpq : ¬ p = q := by have := hp.out; have := hq.out; omega
  rw [hq.out] at q0 ⊢
  rw [hp.out] at p0 ⊢
  go_wp2_with fail
  go_loopw [14] (fun i wr => ∃ k : Nat, k ≤ m ∧ i = .int .i64 k ∧ Below w.heap.size w wr ∧ Hid ((M1.mtTo a b c now ys k).ok = true) ∧ StAt wr p (M1.mtTo a b c now ys k).a (M1.mtTo a b c now ys k).b (M1.mtTo a b c now ys k).c ∧ StAt wr q 0 0 0) (fun i _ => m - (intOf i).toNat)
  case atStart => exact ⟨0, Nat.zero_le _, rfl, hA, rfl, p0, q0⟩
  case round =>
    clear p0 q0 hA
    obtain ⟨k, hk, rfl, hB, HO, p1, q1⟩ := hrel
    obtain ⟨s, hs⟩ : ∃ s, Hid (M1.mtTo a b c now ys k = s) := ⟨_, rfl⟩
    rw [hs.out] at p1 HO
    obtain ⟨a0, a1, a2⟩ := p1.cells
    have pl := p1.lt
    have ql := q1.lt
    by_cases hlt : k < m
    · have g1 := h2.below hB
      rcases g1.hlies with h0 | ⟨d, off, rfl, hb, hc⟩
      · omega
      obtain ⟨c0, c1, c2, c3, c4, c5, c6, c7, c8, c9, c10, c11, c12⟩ := hc k hlt
      clear hc g1
      have i0 : (0 : Int) ≤ (k : Int) := by omega
      have i1 : (k : Int) < (m : Int) := by omega
      have HS := M1.mt_step (a := a) (b := b) (c := c) (now := now) (us := ys) (k := k) (by rw [hs.out]; exact HO.out)
      rw [hs.out] at HS
      obtain ⟨u, hu⟩ : ∃ u, Hid (M1.up ys k = u) := ⟨_, rfl⟩
      rw [hu.out] at HS c0 c1 c2 c3 c4 c5 c6 c7 c8 c9 c10 c11 c12
      obtain ⟨t, ht⟩ : ∃ t, Hid (M1.metP s.a s.b s.c u.sw u.sc u.sr now = t) := ⟨_, rfl⟩
      rw [ht.out] at HS
      have HS : Hid (M1.mtTo a b c now ys (k + 1) = t) := HS
      have hA2 : Below wr.heap.size wr (wr.alloc (.cells #[.int .i64 u.dr, .int .i64 u.dn, .int .i64 u.sw, .int .i64 u.sc, .int .i64 u.sr, .int .i64 u.k, .int .i64 u.tr, .int .i64 u.id, .int .i64 u.pa, .string u.s, .int .i64 u.st, .int .i64 u.en, .int .i64 u.lv] 38)) := (Below.refl _ _).alloc (Nat.le_refl _) _
      go_upto_region 4 with fail
      have rq2 := RowAt.new wr #[.int .i64 u.dr, .int .i64 u.dn, .int .i64 u.sw, .int .i64 u.sc, .int .i64 u.sr, .int .i64 u.k, .int .i64 u.tr, .int .i64 u.id, .int .i64 u.pa, .string u.s, .int .i64 u.st, .int .i64 u.en, .int .i64 u.lv] 38
      obtain ⟨W2, hW2⟩ : ∃ W, wr.alloc (.cells #[.int .i64 u.dr, .int .i64 u.dn, .int .i64 u.sw, .int .i64 u.sc, .int .i64 u.sr, .int .i64 u.k, .int .i64 u.tr, .int .i64 u.id, .int .i64 u.pa, .string u.s, .int .i64 u.st, .int .i64 u.en, .int .i64 u.lv] 38) = W := ⟨_, rfl⟩
      rw [hW2] at hA2 rq2 ⊢
      clear hW2 c0 c1 c2 c3 c4 c5 c6 c7 c8 c9 c10 c11 c12 a0 a1 a2
      have hB2 := hB.trans (hA2.mono hB.size)
      have p2 : StAt W2 p s.a s.b s.c := p1.below hA2
      have q2 : StAt W2 q 0 0 0 := q1.below hA2
      clear p1 q1 hB
      obtain ⟨x, hx⟩ : ∃ x, Hid (wr.heap.size = x) := ⟨_, rfl⟩
      rw [hx.out] at rq2 ⊢
      have e2 := rq2.cell (o := 2) (by simp)
      have e3 := rq2.cell (o := 3) (by simp)
      have e4 := rq2.cell (o := 4) (by simp)
      simp at e2 e3 e4
      have xl := rq2.lt
      obtain ⟨a0, a1, a2⟩ := p2.cells
      have pl2 := p2.lt
      go_wp2_with fail
      refine (met_impl s.a s.b s.c u.sw u.sc u.sr now _).mono ?_
      rw [ht.out]
      rintro e w3 ⟨rfl, hb3⟩
      have hB3 := hB2.trans (hb3.mono hB2.size)
      have p3 : StAt w3 p s.a s.b s.c := p2.below hb3
      have q3 : StAt w3 q 0 0 0 := q2.below hb3
      clear p2 q2 hB2 rq2 e2 e3 e4 xl a0 a1 a2 pl2 hA2
      have hA4 : Below w3.heap.size w3 (w3.alloc (.cells #[.int .i64 t.a, .int .i64 t.b, .int .i64 t.c] 25)) := (Below.refl _ _).alloc (Nat.le_refl _) _
      have y4 := st_new w3 t.a t.b t.c 25
      go_upto_region 5 with fail
      obtain ⟨W4, hW4⟩ : ∃ W, w3.alloc (.cells #[.int .i64 t.a, .int .i64 t.b, .int .i64 t.c] 25) = W := ⟨_, rfl⟩
      rw [hW4] at hA4 y4 ⊢
      clear hW4
      have hB4 := hB3.trans (hA4.mono hB3.size)
      have p4 : StAt W4 p s.a s.b s.c := p3.below hA4
      have q4 : StAt W4 q 0 0 0 := q3.below hA4
      have pl3 := p3.lt
      have ql3 := q3.lt
      obtain ⟨y, hy⟩ : ∃ y, Hid (w3.heap.size = y) := ⟨_, rfl⟩
      rw [hy.out] at y4 pl3 ql3 ⊢
      have hpy : ¬ p = y := by omega
      have hqy : ¬ q = y := by omega
      obtain ⟨a0, a1, a2⟩ := p4.cells
      obtain ⟨f0, f1, f2⟩ := p4.frees
      obtain ⟨b0, b1, b2⟩ := q4.cells
      obtain ⟨g0, g1, g2⟩ := q4.frees
      obtain ⟨d0, d1, d2⟩ := y4.cells
      have l1 := p4.lt
      have l2 := q4.lt
      have l3 := y4.lt
      obtain ⟨o, ho⟩ : ∃ o, Hid (t.ok = o) := ⟨_, rfl⟩
      rw [ho.out]
      cases o with
      | false =>
        have HF : Hid ((M1.mtTo a b c now ys m).ok = false) := M1.mt_fail (k := k + 1) (by rw [HS.out]; exact ho.out) (by omega)
        have qz := q4.put 0 0 0
        have hBz := bel_put3 hB4 hqw 0 0 0
        go_wp2_with fail
        obtain ⟨Wz, hWz⟩ : ∃ W, ((W4.setCell ⟨q, 0, none⟩ (.int .i64 0)).setCell ⟨q, 1, none⟩ (.int .i64 0)).setCell ⟨q, 2, none⟩ (.int .i64 0) = W := ⟨_, rfl⟩
        rw [hWz] at qz hBz ⊢
        clear hWz b0 b1 b2 g0 g1 g2
        obtain ⟨v0, v1, v2⟩ := qz.cells
        refine bodyPost_ret (v := .tuple #[.agg #[.int .i64 0, .int .i64 0, .int .i64 0], .bool false]) (by simp [results, Tryz.results102, go_sem, v0, v1, v2]) rfl ?_
        exact ⟨⟨0, 0, 0, by rw [HF.out], fun z => by rw [HF.out] at z; cases z⟩, hBz⟩
      | true =>
        have pz := p4.put t.a t.b t.c
        have hBz := bel_put3 hB4 hpw t.a t.b t.c
        have qz : StAt (((W4.setCell ⟨p, 0, none⟩ (.int .i64 t.a)).setCell ⟨p, 1, none⟩ (.int .i64 t.b)).setCell ⟨p, 2, none⟩ (.int .i64 t.c)) q 0 0 0 := ((q4.far (p := ⟨p, 0, none⟩) hpq _).far (p := ⟨p, 1, none⟩) hpq _).far (p := ⟨p, 2, none⟩) hpq _
        go_wp2_with fail
        exact ⟨⟨k + 1, by omega, by go_num, hBz, by rw [HS.out]; exact ho, by rw [HS.out]; exact pz, qz⟩, by simp [intOf]; omega⟩
    · have hkm : k = m := by omega
      subst hkm
      obtain ⟨b0, b1, b2⟩ := q1.cells
      obtain ⟨g0, g1, g2⟩ := q1.frees
      have qz := q1.put s.a s.b s.c
      have hBz := bel_put3 hB hqw s.a s.b s.c
      go_wp2_with fail
      obtain ⟨Wz, hWz⟩ : ∃ W, ((wr.setCell ⟨q, 0, none⟩ (.int .i64 s.a)).setCell ⟨q, 1, none⟩ (.int .i64 s.b)).setCell ⟨q, 2, none⟩ (.int .i64 s.c) = W := ⟨_, rfl⟩
      rw [hWz] at qz hBz ⊢
      clear hWz b0 b1 b2 g0 g1 g2
      obtain ⟨v0, v1, v2⟩ := qz.cells
      refine bodyPost_ret (v := .tuple #[.agg #[.int .i64 s.a, .int .i64 s.b, .int .i64 s.c], .bool true]) (by simp [results, Tryz.results102, go_sem, v0, v1, v2]) rfl ?_
      exact ⟨⟨s.a, s.b, s.c, by rw [hs.out, HO.out], fun _ => by rw [hs.out]; exact ⟨rfl, rfl, rfl⟩⟩, hBz⟩

end Go.Proofs.YtccendmoeelniaaGreatDoor
