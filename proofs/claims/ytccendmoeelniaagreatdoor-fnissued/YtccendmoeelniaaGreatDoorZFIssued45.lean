/-
  Texts of one proof, joined: Rv6, Mk1, Reg4, Bytes, VecDraw.
-/
import Derived.Test.YtccendmoeelniaaGreatDoorZFIssued44
import Derived.Test.YtccendmoeelniaaGreatDoorZFIssued02
import Derived.Test.YtccendmoeelniaaGreatDoorZFIssued03
import Derived.Laws.BytesArg
import Derived.Test.YtccendmoeelniaaGreatDoorZFIssued29
import Derived.Test.YtccendmoeelniaaGreatDoorZFIssued25
import Derived.Test.YtccendmoeelniaaGreatDoorZFIssued21
import Derived.Test.YtccendmoeelniaaGreatDoorZFIssued38
namespace Go.Proofs.YtccendmoeelniaaGreatDoor
open Go.ChangeShapes Go.WideShapes Go.ChangeAt Go.RowKit
set_option linter.unusedSimpArgs false
set_option linter.unusedVariables false
set_option maxHeartbeats 8000000 in
set_option maxRecDepth 100000 in
theorem received_spec (r : M1.Rg) (av bv : Option Addr) (n cn m cm : Nat) (ys : List M1.Upd) (now : Int) (w : World) (hU : IsUpds w av n cn r.us) (h2 : IsUpds w bv m cm ys) :
  Calls Tryz.prog 21 #[.agg #[.int .i64 r.id, .int .i64 r.a, .int .i64 r.b, .int .i64 r.c, .slice av n cn], .slice bv m cm, .int .i64 now] w fun e w' => RcS w w' e r ys now ∧ Below w.heap.size w w' := by
 have hA : Below w.heap.size w ((w.alloc (.cells #[.int .i64 r.id, .int .i64 r.a, .int .i64 r.b, .int .i64 r.c, .slice av n cn] 28)).alloc (.cells #[.int .i64 0, .int .i64 0, .int .i64 0, .int .i64 0, .slice none 0 0] 28)) := ((Below.refl _ _).alloc (Nat.le_refl _) _).alloc (by simp) _
 have P0 : RgAt ((w.alloc (.cells #[.int .i64 r.id, .int .i64 r.a, .int .i64 r.b, .int .i64 r.c, .slice av n cn] 28)).alloc (.cells #[.int .i64 0, .int .i64 0, .int .i64 0, .int .i64 0, .slice none 0 0] 28)) w.heap.size r.id r.a r.b r.c av n cn := (rg_new w r.id r.a r.b r.c av n cn 28).alloc _
 have z0 := rg_new (w.alloc (.cells #[.int .i64 r.id, .int .i64 r.a, .int .i64 r.b, .int .i64 r.c, .slice av n cn] 28)) 0 0 0 0 none 0 0 28
 simp only [World.size_alloc] at z0
 obtain ⟨o1, ho1⟩ : ∃ o, Hid (M1.rOk r = o) := ⟨_, rfl⟩
 go_enter Tryz.func21, Tryz.ntmps21
 go_upto_region 1 with fail
 obtain ⟨W0, hW0⟩ : ∃ W, (w.alloc (.cells #[.int .i64 r.id, .int .i64 r.a, .int .i64 r.b, .int .i64 r.c, .slice av n cn] 28)).alloc (.cells #[.int .i64 0, .int .i64 0, .int .i64 0, .int .i64 0, .slice none 0 0] 28) = W := ⟨_, rfl⟩
 rw [hW0] at hA P0 z0 ⊢
 clear hW0
 obtain ⟨p, hp⟩ : ∃ p, Hid (w.heap.size = p) := ⟨_, rfl⟩
 obtain ⟨z, hz⟩ : ∃ z, Hid (w.heap.size + 1 = z) := ⟨_, rfl⟩
 have hzw : w.heap.size ≤ z := by have := hz.out; omega
 rw [hz.out] at z0 ⊢
 rw [hp.out] at P0 ⊢
 obtain ⟨d0, d1, d2, d3, d4⟩ := P0.cells
 have pl := P0.lt
 have zl := z0.lt
 go_wp2_with fail
 refine (regionOk_spec r.id r.a r.b r.c _ _ _ _ _ (hU.below hA)).mono ?_
 rw [show M1.regOk r.id r.a r.b r.c r.us = o1 from ho1.out]
 rintro e w1 ⟨rfl, hb1⟩
 have B1 := hA.trans (hb1.mono hA.size)
 have P1 : RgAt w1 p r.id r.a r.b r.c av n cn := P0.below hb1
 have z1 : RgAt w1 z 0 0 0 0 none 0 0 := z0.below hb1
 clear d0 d1 d2 d3 d4 P0 z0
 cases o1 with
 | false =>
  have HC : Hid (M1.rcC r ys now = 1 ∧ M1.rcR r ys now = M1.zeroR) := M1.rc_1 ho1.out
  have mu0 : MU w1 none 0 0 w.heap.size w1.heap.size (ucell []) := ⟨Nat.le_refl _, Nat.zero_le _, .inl ⟨rfl, rfl⟩⟩
  have hzq : ∀ q, (none : Option Addr) = some q → ¬ q.block = z := fun q hq => by cases hq
  obtain ⟨f0, f1, f2, f3, f4⟩ := z1.frees
  obtain ⟨e0, e1, e2, e3, e4⟩ := z1.cells
  have zl1 := z1.lt
  have zf := z1.put 0 0 0 0 none 0 0
  have hBz := bel_put5 B1 hzw (.int .i64 0) (.int .i64 0) (.int .i64 0) (.int .i64 0) (.slice none 0 0)
  have hmz := mu_put5 mu0 hzq (.int .i64 0) (.int .i64 0) (.int .i64 0) (.int .i64 0) (.slice none 0 0)
  go_wp2_with fail
  obtain ⟨Wz, hWz⟩ : ∃ W, ((((w1.setCell ⟨z, 0, none⟩ (.int .i64 0)).setCell ⟨z, 1, none⟩ (.int .i64 0)).setCell ⟨z, 2, none⟩ (.int .i64 0)).setCell ⟨z, 3, none⟩ (.int .i64 0)).setCell ⟨z, 4, none⟩ (.slice none 0 0) = W := ⟨_, rfl⟩
  rw [hWz] at zf hBz hmz ⊢
  clear hWz f0 f1 f2 f3 f4 e0 e1 e2 e3 e4
  obtain ⟨x0, x1, x2, x3, x4⟩ := zf.cells
  refine bodyPost_ret (v := .tuple #[.agg #[.int .i64 0, .int .i64 0, .int .i64 0, .int .i64 0, .slice none 0 0], .int .i64 1]) (by simp [results, Tryz.results21, go_sem, x0, x1, x2, x3, x4]) rfl ?_
  exact ⟨⟨_, by rw [HC.out.1], by rw [HC.out.2]; exact ⟨none, 0, rfl, hmz⟩⟩, hBz⟩
 | true =>
  obtain ⟨d0, d1, d2, d3, d4⟩ := P1.cells
  have pl1 := P1.lt
  have zl1 := z1.lt
  have hs1 := B1.size
  go_wp2_with fail
  refine (l5Received_any r _ _ _ _ _ _ ys now _ (hU.below B1) (h2.below B1) ho1).mono ?_
  rintro e w2 ⟨⟨v, rfl, v2, c2, rfl, mu2⟩, hb2⟩
  obtain ⟨x, hx⟩ : ∃ x, Hid (M1.rcR r ys now = x) := ⟨_, rfl⟩
  rw [hx.out] at mu2 ⊢
  have B2 := B1.trans (hb2.mono B1.size)
  have z2 : RgAt w2 z 0 0 0 0 none 0 0 := z1.below hb2
  have hzq : ∀ q, v2 = some q → ¬ q.block = z := fun q hq => by
   rcases mu2.2.2 with ⟨_, e⟩ | ⟨g, e, h1, _, _⟩
   ·rw [e] at hq; cases hq
   ·rw [e] at hq; cases hq; show ¬ g = z; omega
  clear d0 d1 d2 d3 d4
  obtain ⟨f0, f1, f2, f3, f4⟩ := z2.frees
  obtain ⟨e0, e1, e2, e3, e4⟩ := z2.cells
  have zl2 := z2.lt
  have zf := z2.put x.id x.a x.b x.c v2 x.us.length c2
  have hBz := bel_put5 B2 hzw (.int .i64 x.id) (.int .i64 x.a) (.int .i64 x.b) (.int .i64 x.c) (.slice v2 x.us.length c2)
  have hmz := mu_put5 mu2 hzq (.int .i64 x.id) (.int .i64 x.a) (.int .i64 x.b) (.int .i64 x.c) (.slice v2 x.us.length c2)
  go_wp2_with fail
  obtain ⟨Wz, hWz⟩ : ∃ W, ((((w2.setCell ⟨z, 0, none⟩ (.int .i64 x.id)).setCell ⟨z, 1, none⟩ (.int .i64 x.a)).setCell ⟨z, 2, none⟩ (.int .i64 x.b)).setCell ⟨z, 3, none⟩ (.int .i64 x.c)).setCell ⟨z, 4, none⟩ (.slice v2 x.us.length c2) = W := ⟨_, rfl⟩
  rw [hWz] at zf hBz hmz ⊢
  clear hWz f0 f1 f2 f3 f4 e0 e1 e2 e3 e4
  obtain ⟨x0, x1, x2, x3, x4⟩ := zf.cells
  refine bodyPost_ret (v := .tuple #[.agg #[.int .i64 x.id, .int .i64 x.a, .int .i64 x.b, .int .i64 x.c, .slice v2 x.us.length c2], .int .i64 (M1.rcC r ys now)]) (by simp [results, Tryz.results21, go_sem, x0, x1, x2, x3, x4]) rfl ?_
  exact ⟨⟨_, rfl, by rw [hx.out]; exact ⟨v2, c2, rfl, mu_wid hmz (by omega)⟩⟩, hBz⟩

end Go.Proofs.YtccendmoeelniaaGreatDoor

namespace M1
theorem rc_set (r : Rg) (ys : List Upd) (now : Int) : setOk (rcR r ys now).us = true := by
 rcases rc_cases r ys now with ⟨_, _, q⟩ | ⟨q, _, q2⟩ | ⟨_, _, q, q2⟩
 ·rw [q]; rfl
 ·rw [q2]; exact rOk_set q
 ·rw [q]; exact (tOk_true q2).2.2.1

end M1
namespace Go.Proofs.YtccendmoeelniaaGreatDoor
open Go.ChangeShapes Go.WideShapes Go.ChangeAt Go.RowKit
set_option linter.unusedSimpArgs false
set_option linter.unusedVariables false
end Go.Proofs.YtccendmoeelniaaGreatDoor

namespace Go.Proofs.YtccendmoeelniaaGreatDoor
open Go.ChangeShapes Go.WideShapes Go.ChangeAt Go.RowKit
set_option linter.unusedSimpArgs false
theorem regionNew_spec (id : Int) (w : World) :
  Calls Tryz.prog 79 #[.int .i64 id] w fun e w' => e = .returned (.tuple #[.agg #[.int .i64 (if M1.inB id 1 5 = true then id else 0), .int .i64 0, .int .i64 0, .int .i64 (if M1.inB id 1 5 = true then id else 0), .slice none 0 0], .bool (M1.inB id 1 5)]) ∧ Below w.heap.size w w' := by
 by_cases q1 : M1.inB id 1 5 = true
 ·rw [if_pos q1, q1]
  go_enter Tryz.func79, Tryz.ntmps79
  go_wp2_with fail
  refine (l1In_any _ _ _ _).mono ?_
  rw [q1]
  rintro e w0 ⟨rfl, rfl⟩
  go_wp2_with fail
  refine bodyPost_ret (v := .tuple #[.agg #[.int .i64 id, .int .i64 0, .int .i64 0, .int .i64 id, .slice none 0 0], .bool true]) (by simp [results, Tryz.results79, go_sem]) rfl ⟨rfl, ?_⟩
  repeat (first | (with_reducible exact Below.refl _ _) | ((with_reducible refine Below.setCell ?_ ?_ _); rotate_left; (focus (first | omega | (simp; done) | (simp; omega)))) | ((with_reducible refine Below.alloc ?_ ?_ _); rotate_left; (focus (first | omega | (simp; done) | (simp; omega)))) | (with_reducible refine Below.drew ?_))
 ·rw [if_neg q1]
  replace q1 : M1.inB id 1 5 = false := by simpa using q1
  rw [q1]
  go_enter Tryz.func79, Tryz.ntmps79
  go_wp2_with fail
  refine (l1In_any _ _ _ _).mono ?_
  rw [q1]
  rintro e w0 ⟨rfl, rfl⟩
  go_wp2_with fail
  refine bodyPost_ret (v := .tuple #[.agg #[.int .i64 0, .int .i64 0, .int .i64 0, .int .i64 0, .slice none 0 0], .bool false]) (by simp [results, Tryz.results79, go_sem]) rfl ⟨rfl, ?_⟩
  repeat (first | (with_reducible exact Below.refl _ _) | ((with_reducible refine Below.setCell ?_ ?_ _); rotate_left; (focus (first | omega | (simp; done) | (simp; omega)))) | ((with_reducible refine Below.alloc ?_ ?_ _); rotate_left; (focus (first | omega | (simp; done) | (simp; omega)))) | (with_reducible refine Below.drew ?_))

end Go.Proofs.YtccendmoeelniaaGreatDoor

namespace Go.Proofs.YtccendmoeelniaaGreatDoor
open Go.ChangeShapes Go.WideShapes Go.ChangeAt Go.RowKit
set_option maxRecDepth 100000
structure IsBytes (w : World) (av : Option Addr) (len cap : Nat) : Prop where
 hc : len ≤ cap
 hm : cap ≤ maxLen
 lies : len = 0 ∨ ∃ b off, av = some ⟨b, off, none⟩ ∧ b < w.heap.size ∧ ∀ i, i < len → ∃ z, w.cell? ⟨b, off + i, none⟩ = some (.int .u8 z) ∧ 0 ≤ z ∧ z ≤ 255

theorem IsBytes.below {w w' : World} {av : Option Addr} {len cap : Nat} (h : IsBytes w av len cap) {B : Nat} (hB : w.heap.size ≤ B) (hb : Below B w w') : IsBytes w' av len cap :=
 ⟨h.hc, h.hm, h.lies.imp id fun ⟨b, off, e, hlt, hz⟩ => ⟨b, off, e, Nat.lt_of_lt_of_le hlt hb.size, fun i hi => let ⟨z, h2, h3⟩ := hz i hi; ⟨z, (hb.cell (p := ⟨b, off + i, none⟩) (by show b < B; omega)).trans h2, h3⟩⟩⟩

theorem open_bytes {H : Type} {enc : TypeId × Value → H} {W : World} {fuel len cap : Nat} {a : Option Addr} {x : DataW H × List MemPlace}
  (hf : DataW.trod enc Tryz.prog W 0 (fun _ => true) true fuel 22 (Value.slice a len cap).cells.toList = some x) : IsBytes W a len cap := by
 rcases open_ints Tryz.underlying22 Tryz.underlying5 (by kernel_rfl) hf with ⟨hcs, _⟩ | ⟨y, l, c, zs, hcs, _, hl, hm, hz, _, hcell, hwz⟩
 ·simp [Value.cells] at hcs
  obtain ⟨rfl, rfl, rfl⟩ := hcs
  exact ⟨Nat.le_refl _, Nat.zero_le _, Or.inl rfl⟩
 ·simp [Value.cells] at hcs
  obtain ⟨rfl, rfl, rfl⟩ := hcs
  have hz' : zs.length = cap := by simpa using hz
  refine ⟨hl, hm, ?_⟩
  rcases Nat.eq_zero_or_pos len with h0 | h0
  ·exact Or.inl h0
  ·obtain ⟨b, off, rfl, hc⟩ := ints_at hcell (by omega)
   refine Or.inr ⟨b, off, rfl, World.block_lt_of_cell? W _ (hc 0 (by omega)), fun i hi => ⟨zs.getD i 0, hc i (by omega), ?_⟩⟩
   have hw := bounds_u8 (hwz (zs.getD i 0) (by simp [List.getD, show i < zs.length from by omega]))
   exact hw

theorem l1Open_any (av : Option Addr) (len cap : Nat) (w : World) (h : IsBytes w av len cap) :
  Calls Tryz.prog 39 #[.slice av len cap] w fun e w' => e = .returned (.pointer (some ⟨w.heap.size, 0, none⟩)) ∧ Rdr w' w.heap.size av len cap ∧ Below w.heap.size w w' := by
 go_enter Tryz.func39, Tryz.ntmps39
 go_wp2
 go_ret
 have hr := RowAt.new w #[.slice av len cap, .int .i64 0] 120
 refine ⟨rfl, ⟨by simp, hr.cell (o := 0) (by simp), ⟨0, Nat.zero_le _, hr.cell (o := 1) (by simp)⟩, hr.free (o := 0) (by simp), hr.free (o := 1) (by simp), h.hc, h.hm, ?_⟩, (Below.refl _ _).alloc (Nat.le_refl _) _⟩
 have hb : Below w.heap.size w (w.alloc (.cells #[.slice av len cap, .int .i64 0] 120)) := (Below.refl _ _).alloc (Nat.le_refl _) _
 exact h.lies.imp id fun ⟨b, off, e, hlt, hz⟩ => ⟨b, off, e, by simp; omega, by omega, fun i hi => let ⟨z, h2, h3⟩ := hz i hi; ⟨z, (hb.cell (p := ⟨b, off + i, none⟩) hlt).trans h2, h3⟩⟩

end Go.Proofs.YtccendmoeelniaaGreatDoor

namespace Go.Proofs.YtccendmoeelniaaGreatDoor
open Go.ChangeShapes Go.WideShapes Go.ChangeAt Go.RowKit
set_option linter.unusedSimpArgs false
theorem grown_cell {w a b : World} {row : Option Nat} (hs : w.heap.size ≤ a.heap.size) (hg : a.grownBy b row) (hrow : ∀ k, row = some k → w.heap.size ≤ k) {k : Nat} (hk : k < w.heap.size) (o : Nat) : b.cell? ⟨k, o, none⟩ = a.cell? ⟨k, o, none⟩ ∧ b.frozen? ⟨k, o, none⟩ = a.frozen? ⟨k, o, none⟩ :=
 have e := hg.block k (Nat.lt_of_lt_of_le hk hs) (fun e => by have := hrow k e.symm; omega)
 ⟨World.cell?_of_block (w := a) e, World.frozen?_of_block (w := a) e⟩

theorem Rdr.grown {w a b : World} {row : Option Nat} {g : Nat} {av : Option Addr} {len cap : Nat} (h0 : Rdr w g av len cap) (h : Rdr a g av len cap) (hs : w.heap.size ≤ a.heap.size) (hg : a.grownBy b row) (hrow : ∀ k, row = some k → w.heap.size ≤ k) : Rdr b g av len cap := by
 have key := fun k (hk : k < w.heap.size) o => grown_cell hs hg hrow hk o
 obtain ⟨p, hp, h1⟩ := h.c1
 refine ⟨Nat.lt_of_lt_of_le h.lt hg.size, (key g h0.lt 0).1.trans h.c0, ⟨p, hp, (key g h0.lt 1).1.trans h1⟩, (key g h0.lt 0).2.trans h.f0, (key g h0.lt 1).2.trans h.f1, h.hc, h.hm, ?_⟩
 rcases h0.lies with e0 | ⟨b0, off0, e, hlt, hn, _⟩
 ·exact Or.inl e0
 ·rcases h.lies with e1 | ⟨b1, off1, e', _, _, hz⟩
  ·exact Or.inl e1
  ·rw [e] at e'
   injection e' with e'
   injection e' with e1 e2 _
   subst e1 e2
   exact Or.inr ⟨b0, off0, e, by have := hg.size; omega, hn, fun i hi => let ⟨z, h2, h3⟩ := hz i hi; ⟨z, (key b0 hlt _).1.trans h2, h3⟩⟩

theorem MV.gr {w w' : World} {av : Option Addr} {n cap lo hi g : Nat} {f : Nat → Value} (h : MV w av n cap lo hi f) (hg : Gr g w w') (hb : g < lo) : MV w' av n cap lo hi f :=
 ⟨h.1, h.2.1, h.2.2.imp id fun ⟨k, e, h1, h2, r⟩ => ⟨k, e, h1, h2, r.gr hg (by omega)⟩⟩

theorem MV.wide {w : World} {av : Option Addr} {n cap lo hi lo' hi' : Nat} {f : Nat → Value} (h : MV w av n cap lo hi f) (h1 : lo' ≤ lo) (h2 : hi ≤ hi') : MV w av n cap lo' hi' f :=
 ⟨h.1, h.2.1, h.2.2.imp id fun ⟨k, e, h3, h4, r⟩ => ⟨k, e, by omega, by omega, r⟩⟩

end Go.Proofs.YtccendmoeelniaaGreatDoor
