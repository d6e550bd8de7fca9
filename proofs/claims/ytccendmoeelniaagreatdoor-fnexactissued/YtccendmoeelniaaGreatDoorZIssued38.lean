/-
  Texts of one proof, joined: Rv4, Mk1.
-/
import Derived.Test.YtccendmoeelniaaGreatDoorZIssued34
import Derived.Test.YtccendmoeelniaaGreatDoorZIssued33
import Derived.Test.YtccendmoeelniaaGreatDoorZIssued35
import Derived.Test.YtccendmoeelniaaGreatDoorZIssued22
import Derived.Test.YtccendmoeelniaaGreatDoorZIssued32
import Derived.Test.YtccendmoeelniaaGreatDoorZIssued11
import Derived.BigQuiet
import Derived.Test.YtccendmoeelniaaGreatDoorZIssued36
import Derived.Test.YtccendmoeelniaaGreatDoorZIssued21
import Derived.Test.YtccendmoeelniaaGreatDoorZIssued37
import Derived.Test.YtccendmoeelniaaGreatDoorZIssued08
namespace Go.Proofs.YtccendmoeelniaaGreatDoor
open Go.ChangeShapes Go.WideShapes Go.ChangeAt Go.RowKit
set_option linter.unusedSimpArgs false
set_option linter.unusedVariables false
set_option maxHeartbeats 8000000 in
set_option maxRecDepth 100000 in
theorem l5Copy_any (id a b c : Int) (us : List M1.Upd) (av : Option Addr) (n cn : Nat) (w : World) (hU : IsUpds w av n cn us) (hn : n ≤ 500000) :
    Calls Tryz.prog 92 #[.agg #[.int .i64 id, .int .i64 a, .int .i64 b, .int .i64 c, .slice av n cn]] w fun e w' => (∃ v2 c2, e = .returned (.agg #[.int .i64 id, .int .i64 a, .int .i64 b, .int .i64 c, .slice v2 n c2]) ∧ MU w' v2 n c2 w.heap.size w'.heap.size (ucell us)) ∧ Below w.heap.size w w' := by
  have hln : Hid (us.length = n) := hU.hlen
  have hA : Below w.heap.size w ((w.alloc (.cells #[.int .i64 id, .int .i64 a, .int .i64 b, .int .i64 c, .slice av n cn] 28)).alloc (.cells #[.int .i64 0, .int .i64 0, .int .i64 0, .int .i64 0, .slice none 0 0] 28)) := ((Below.refl _ _).alloc (Nat.le_refl _) _).alloc (by simp) _
  have P0 : RgAt ((w.alloc (.cells #[.int .i64 id, .int .i64 a, .int .i64 b, .int .i64 c, .slice av n cn] 28)).alloc (.cells #[.int .i64 0, .int .i64 0, .int .i64 0, .int .i64 0, .slice none 0 0] 28)) w.heap.size id a b c av n cn := (rg_new w id a b c av n cn 28).alloc _
  have z0 := rg_new (w.alloc (.cells #[.int .i64 id, .int .i64 a, .int .i64 b, .int .i64 c, .slice av n cn] 28)) 0 0 0 0 none 0 0 28
  simp only [World.size_alloc] at z0
  go_enter Tryz.func92, Tryz.ntmps92
  go_upto_region 1 with fail
  obtain ⟨W0, hW0⟩ : ∃ W, (w.alloc (.cells #[.int .i64 id, .int .i64 a, .int .i64 b, .int .i64 c, .slice av n cn] 28)).alloc (.cells #[.int .i64 0, .int .i64 0, .int .i64 0, .int .i64 0, .slice none 0 0] 28) = W := ⟨_, rfl⟩
  rw [hW0] at hA P0 z0 ⊢
  clear hW0
  obtain ⟨p, hp⟩ : ∃ p, Hid (w.heap.size = p) := ⟨_, rfl⟩
  obtain ⟨z, hz⟩ : ∃ z, Hid (w.heap.size + 1 = z) := ⟨_, rfl⟩
  have hzw : w.heap.size ≤ z := by have := hz.out; omega
  have hpw : w.heap.size ≤ p := by have := hp.out; omega
  have hpz : ¬ p = z := by have := hp.out; have := hz.out; omega
  rw [hz.out] at z0 ⊢
  rw [hp.out] at P0 ⊢
  have own0 := ownsU_empty W0 38
  have hA1 : Below W0.heap.size W0 (W0.alloc (.cells #[] 38)) := (Below.refl _ _).alloc (Nat.le_refl _) _
  obtain ⟨d0, d1, d2, d3, d4⟩ := P0.cells
  have pl := P0.lt
  have zl := z0.lt
  have hU1 := (hU.below hA).below hA1
  go_upto_region 2 with (at_builtin; refine wpList_appU (by rfl) _ _ rfl W0.heap.size _ _ 0 [] rfl rfl own0 _ _ _ us rfl hU1 (by omega) (by simp) ?_; intro a2 c2 w2 own2 hb2; have B02 : Below W0.heap.size W0 w2 := hA1.trans hb2; have P2 : RgAt w2 p id a b c av n cn := P0.below B02; obtain ⟨f0, f1, f2, f3, f4⟩ := P2.frees; obtain ⟨g0, g1, g2, g3, g4⟩ := P2.cells; have pl2 := P2.lt)
  have P3 : RgAt (w2.setCell ⟨p, 4, none⟩ (.slice a2 n c2)) p id a b c a2 n c2 := rg_set P2 _ _ _
  have z2 : RgAt w2 z 0 0 0 0 none 0 0 := z0.below B02
  have z3 : RgAt (w2.setCell ⟨p, 4, none⟩ (.slice a2 n c2)) z 0 0 0 0 none 0 0 := z2.far (p := ⟨p, 4, none⟩) hpz _
  have hmu : MU w2 a2 n c2 W0.heap.size w2.heap.size (ucell us) := by
    have hl2 : us.length = n := hln.out
    have own3 : w2.ownsRow W0.heap.size 38 13 (.slice a2 us.length c2) us.length (ucL us) := by
      have := own2
      rw [Nat.zero_add, List.nil_append] at this
      rw [hl2]; exact this
    obtain ⟨v9, c9, e9, m9⟩ := MU.of_owns own3
    injection e9 with e9 _ e10
    rw [← hl2, e9, e10]; exact m9
  have hzq : ∀ q, a2 = some q → ¬ q.block = z := fun q hq => by
    rcases hmu.2.2 with ⟨_, e⟩ | ⟨g, e, h1, _, _⟩
    · rw [e] at hq; cases hq
    · rw [e] at hq; cases hq; show ¬ g = z; omega
  have hpq : ∀ q, a2 = some q → ¬ q.block = p := fun q hq => by
    rcases hmu.2.2 with ⟨_, e⟩ | ⟨g, e, h1, _, _⟩
    · rw [e] at hq; cases hq
    · rw [e] at hq; cases hq; show ¬ g = p; omega
  have mu3 : MU (w2.setCell ⟨p, 4, none⟩ (.slice a2 n c2)) a2 n c2 W0.heap.size (w2.setCell ⟨p, 4, none⟩ (.slice a2 n c2)).heap.size (ucell us) := by
    have e : (w2.setCell ⟨p, 4, none⟩ (.slice a2 n c2)).heap.size = w2.heap.size := by simp [World.setCell]
    rw [e]; exact mu_far (p := ⟨p, 4, none⟩) hmu hpq _
  have B3 : Below w.heap.size w (w2.setCell ⟨p, 4, none⟩ (.slice a2 n c2)) := (hA.trans (B02.mono hA.size)).setCell (p := ⟨p, 4, none⟩) hpw _
  obtain ⟨W3, hW3⟩ : ∃ W, w2.setCell ⟨p, 4, none⟩ (.slice a2 n c2) = W := ⟨_, rfl⟩
  rw [hW3] at P3 z3 mu3 B3 ⊢
  clear hW3 f0 f1 f2 f3 f4 g0 g1 g2 g3 g4 d0 d1 d2 d3 d4 P2 z2 pl2
  obtain ⟨d0, d1, d2, d3, d4⟩ := P3.cells
  have pl3 := P3.lt
  obtain ⟨f0, f1, f2, f3, f4⟩ := z3.frees
  obtain ⟨e0, e1, e2, e3, e4⟩ := z3.cells
  have zl3 := z3.lt
  have zf := z3.put id a b c a2 n c2
  have hBz := bel_put5 B3 hzw (.int .i64 id) (.int .i64 a) (.int .i64 b) (.int .i64 c) (.slice a2 n c2)
  have hmz := mu_put5 mu3 hzq (.int .i64 id) (.int .i64 a) (.int .i64 b) (.int .i64 c) (.slice a2 n c2)
  go_wp2_with fail
  obtain ⟨Wz, hWz⟩ : ∃ W, ((((W3.setCell ⟨z, 0, none⟩ (.int .i64 id)).setCell ⟨z, 1, none⟩ (.int .i64 a)).setCell ⟨z, 2, none⟩ (.int .i64 b)).setCell ⟨z, 3, none⟩ (.int .i64 c)).setCell ⟨z, 4, none⟩ (.slice a2 n c2) = W := ⟨_, rfl⟩
  rw [hWz] at zf hBz hmz ⊢
  clear hWz f0 f1 f2 f3 f4 e0 e1 e2 e3 e4
  obtain ⟨v0, v1, v2, v3, v4⟩ := zf.cells
  have hs0 := hA.size
  refine bodyPost_ret (v := .agg #[.int .i64 id, .int .i64 a, .int .i64 b, .int .i64 c, .slice a2 n c2]) (by simp [results, Tryz.results92, go_sem, v0, v1, v2, v3, v4]) rfl ?_
  exact ⟨⟨a2, c2, rfl, ⟨hmz.1, hmz.2.1, hmz.2.2.imp (fun h => h) fun ⟨g, e, h1, h2, r⟩ => ⟨g, e, by omega, h2, r⟩⟩⟩, hBz⟩

end Go.Proofs.YtccendmoeelniaaGreatDoor

namespace M1
end M1
namespace Go.Proofs.YtccendmoeelniaaGreatDoor
open Go.ChangeShapes Go.WideShapes Go.ChangeAt Go.RowKit
set_option linter.unusedSimpArgs false
set_option linter.unusedVariables false
theorem set_short {us : List M1.Upd} (h : M1.setOk us = true) : ∀ i, i < us.length → (M1.up us i).s.size ≤ maxLen := fun i hi => by
  have := M1.ok_txt (M1.okAt_ok (M1.setOk_all h i hi))
  unfold maxLen; omega

set_option maxHeartbeats 2000000 in
theorem markRegion_some (id a b c : Int) (g n cap : Nat) (f : Nat → Value) (k : Int) (w : World) (h : RowAt w g (n * 13) f) (hc : n ≤ cap) (hm : cap ≤ maxLen) (hn : n ≤ 1048576) (hk : 0 ≤ k) (hk2 : k ≤ 100000000) :
    Calls Tryz.prog 33 #[.agg #[.int .i64 id, .int .i64 a, .int .i64 b, .int .i64 c, .slice (some ⟨g, 0, none⟩) n cap], .int .i64 k] w fun e w' => e = .returned (.int .i64 (k + 13 * n)) ∧ Gr g w w' := by
  have hA : Below w.heap.size w (w.alloc (.cells #[.int .i64 id, .int .i64 a, .int .i64 b, .int .i64 c, .slice (some ⟨g, 0, none⟩) n cap] 28)) := (Below.refl _ _).alloc (Nat.le_refl _) _
  have P := rg_new w id a b c (some ⟨g, 0, none⟩) n cap 28
  go_enter Tryz.func33, Tryz.ntmps33
  go_upto_region 1 with fail
  obtain ⟨W0, hW0⟩ : ∃ W, w.alloc (.cells #[.int .i64 id, .int .i64 a, .int .i64 b, .int .i64 c, .slice (some ⟨g, 0, none⟩) n cap] 28) = W := ⟨_, rfl⟩
  rw [hW0] at hA P ⊢
  clear hW0
  obtain ⟨d0, d1, d2, d3, d4⟩ := P.cells
  have pl := P.lt
  go_wp2_with fail
  refine (markU_some g n cap f k _ (h.below hA) hc hm hn hk hk2).mono ?_
  rintro e w1 ⟨rfl, _, G1⟩
  go_wp2_with fail
  go_ret
  exact ⟨rfl, gr_trans (gr_below hA) G1⟩

set_option maxHeartbeats 2000000 in
theorem markRegion_any (id a b c : Int) (av : Option Addr) (n cap lo hi : Nat) (us : List M1.Upd) (k : Int) (w : World) (h : MU w av n cap lo hi (ucell us)) (hn : n ≤ 1048576) (hk : 0 ≤ k) (hk2 : k ≤ 100000000) :
    Calls Tryz.prog 33 #[.agg #[.int .i64 id, .int .i64 a, .int .i64 b, .int .i64 c, .slice av n cap], .int .i64 k] w fun e w' => e = .returned (.int .i64 (k + 13 * n)) ∧ MU w' av n cap lo hi (mcell k) ∧ MkU av w w' := by
  have hA : Below w.heap.size w (w.alloc (.cells #[.int .i64 id, .int .i64 a, .int .i64 b, .int .i64 c, .slice av n cap] 28)) := (Below.refl _ _).alloc (Nat.le_refl _) _
  have P := rg_new w id a b c av n cap 28
  go_enter Tryz.func33, Tryz.ntmps33
  go_upto_region 1 with fail
  obtain ⟨W0, hW0⟩ : ∃ W, w.alloc (.cells #[.int .i64 id, .int .i64 a, .int .i64 b, .int .i64 c, .slice av n cap] 28) = W := ⟨_, rfl⟩
  rw [hW0] at hA P ⊢
  clear hW0
  obtain ⟨d0, d1, d2, d3, d4⟩ := P.cells
  have pl := P.lt
  go_wp2_with fail
  refine (markU_any _ _ _ _ _ _ k _ (h.below hA) hn hk hk2).mono ?_
  rintro e w1 ⟨rfl, mu, mk⟩
  go_wp2_with fail
  go_ret
  exact ⟨rfl, mu, fun e => hA.trans ((mk.1 e).mono hA.size), fun g e => gr_trans (gr_below hA) (mk.2 g e)⟩

set_option maxHeartbeats 2000000 in
theorem heldRegion_any (id a b c : Int) (av : Option Addr) (n cap lo hi : Nat) (k : Int) (w : World) (h : MU w av n cap lo hi (mcell k)) (hn : n ≤ 1048576) (hk : 0 ≤ k) (hk2 : k ≤ 100000000) :
    Calls Tryz.prog 34 #[.agg #[.int .i64 id, .int .i64 a, .int .i64 b, .int .i64 c, .slice av n cap], .int .i64 k] w fun e w' => e = .returned (.int .i64 (k + 13 * n)) ∧ Below w.heap.size w w' := by
  have hA : Below w.heap.size w (w.alloc (.cells #[.int .i64 id, .int .i64 a, .int .i64 b, .int .i64 c, .slice av n cap] 28)) := (Below.refl _ _).alloc (Nat.le_refl _) _
  have P := rg_new w id a b c av n cap 28
  go_enter Tryz.func34, Tryz.ntmps34
  go_upto_region 1 with fail
  obtain ⟨W0, hW0⟩ : ∃ W, w.alloc (.cells #[.int .i64 id, .int .i64 a, .int .i64 b, .int .i64 c, .slice av n cap] 28) = W := ⟨_, rfl⟩
  rw [hW0] at hA P ⊢
  clear hW0
  obtain ⟨d0, d1, d2, d3, d4⟩ := P.cells
  have pl := P.lt
  go_wp2_with fail
  refine (heldU_any _ _ _ _ _ k _ (h.below hA) hn hk hk2).mono ?_
  rintro e w1 ⟨rfl, hb1⟩
  have e1 : ¬ (k + 13 * (n : Int)) < 0 := by omega
  go_wp2_with fail
  go_ret
  exact ⟨rfl, hA.trans (hb1.mono hA.size)⟩

end Go.Proofs.YtccendmoeelniaaGreatDoor
