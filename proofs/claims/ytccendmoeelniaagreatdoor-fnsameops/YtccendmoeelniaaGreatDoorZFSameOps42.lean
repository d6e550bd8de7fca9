/-
  Texts of one proof, joined: Is6.
-/
import Derived.Test.YtccendmoeelniaaGreatDoorZFSameOps36
import Derived.Test.YtccendmoeelniaaGreatDoorZFSameOps28
import Derived.Test.YtccendmoeelniaaGreatDoorZFSameOps41
import Derived.Test.YtccendmoeelniaaGreatDoorZFSameOps17
import Derived.Test.YtccendmoeelniaaGreatDoorZFSameOps37
import Derived.Test.YtccendmoeelniaaGreatDoorZFSameOps11
import Derived.Test.YtccendmoeelniaaGreatDoorZFSameOps12
import Derived.Test.YtccendmoeelniaaGreatDoorZFSameOps19
import Derived.Deep.CutBlock
namespace M1
theorem last_fm {r : Rg} (h : rOk r = true) : fm (l3v r.us) r.id = lastN r.us r.us.length r.id := by
 have hs := rOk_set h
 have hid := inB_true (rOk_all h).1
 exact (LInv.start (setOk_all hs)).fm (ok_sorted (setOk_all hs)) hid.1 hid.2

theorem lets_odd {us : List Upd} {o : OpV} (hk : o.k = 3) (h : lvT us o.t % 2 = 1) : letsB us o = false := by
 unfold letsB evenB; rw [if_pos hk, h]; rfl

theorem lets_even {us : List Upd} {o : OpV} (hk : o.k = 3) (h : lvT us o.t % 2 = 0) : letsB us o = true := by
 unfold letsB evenB; rw [if_pos hk, h]; rfl

theorem lets_odd4 {us : List Upd} {o : OpV} (hk : o.k = 4) (h : lvT us o.t % 2 = 1) : letsB us o = true := by
 unfold letsB evenB; rw [if_neg (by omega), if_pos hk, h]; rfl

theorem lets_even4 {us : List Upd} {o : OpV} (hk : o.k = 4) (h : lvT us o.t % 2 = 0) : letsB us o = false := by
 unfold letsB evenB; rw [if_neg (by omega), if_pos hk, h]; rfl

end M1
namespace Go.Proofs.YtccendmoeelniaaGreatDoor
open Go.ChangeShapes Go.WideShapes Go.ChangeAt Go.RowKit
set_option linter.unusedSimpArgs false
set_option linter.unusedVariables false
theorem rg_clock {w : World} {p : Nat} {id a b c : Int} {av : Option Addr} {n cn : Nat} (h : RgAt w p id a b c av n cn) (x y z : Int) : RgAt (((w.setCell ⟨p, 1, none⟩ (.int .i64 x)).setCell ⟨p, 2, none⟩ (.int .i64 y)).setCell ⟨p, 3, none⟩ (.int .i64 z)) p id x y z av n cn :=
 RowAt.same (((h.set (o := 1) (by omega) (.int .i64 x)).set (o := 2) (by omega) (.int .i64 y)).set (o := 3) (by omega) (.int .i64 z)) fun o ho => by
  match o, ho with
  | 0, _ => rfl
  | 1, _ => rfl
  | 2, _ => rfl
  | 3, _ => rfl
  | 4, _ => rfl

theorem far1 {w : World} {k m g o : Nat} {f : Nat → Value} (h : RowAt w k m f) (hn : ¬ g = k) (v : Value) : RowAt (w.setCell ⟨g, o, none⟩ v) k m f := h.far (p := ⟨g, o, none⟩) hn v

theorem bel1 {a w : World} {B g o : Nat} (h : Below B a w) (hr : B ≤ g) (v : Value) : Below B a (w.setCell ⟨g, o, none⟩ v) := h.setCell (p := ⟨g, o, none⟩) hr v

def nu0 (id d a b c t : Int) : M1.Upd := ⟨id, d, a, b, c, 0, t, 0, 0, ByteArray.empty, 0, 0, 0⟩

theorem nu_k1 {w : World} {g : Nat} {id d a b c t : Int} (h : RowAt w g 13 (uq (nu0 id d a b c t))) (i pa : Int) (s : ByteArray) (st en : Int) : RowAt ((((((w.setCell ⟨g, 5, none⟩ (.int .i64 1)).setCell ⟨g, 7, none⟩ (.int .i64 i)).setCell ⟨g, 8, none⟩ (.int .i64 pa)).setCell ⟨g, 9, none⟩ (.string s)).setCell ⟨g, 10, none⟩ (.int .i64 st)).setCell ⟨g, 11, none⟩ (.int .i64 en)) g 13 (uq ⟨id, d, a, b, c, 1, t, i, pa, s, st, en, 0⟩) :=
 RowAt.same ((((((h.set (o := 5) (by omega) (.int .i64 1)).set (o := 7) (by omega) (.int .i64 i)).set (o := 8) (by omega) (.int .i64 pa)).set (o := 9) (by omega) (.string s)).set (o := 10) (by omega) (.int .i64 st)).set (o := 11) (by omega) (.int .i64 en)) (uq_same rfl rfl rfl rfl rfl rfl rfl rfl rfl rfl rfl rfl rfl)

theorem nu_k2 {w : World} {g : Nat} {id d a b c t : Int} (h : RowAt w g 13 (uq (nu0 id d a b c t))) : RowAt (w.setCell ⟨g, 5, none⟩ (.int .i64 2)) g 13 (uq ⟨id, d, a, b, c, 2, t, 0, 0, ByteArray.empty, 0, 0, 0⟩) :=
 RowAt.same (h.set (o := 5) (by omega) (.int .i64 2)) (uq_same rfl rfl rfl rfl rfl rfl rfl rfl rfl rfl rfl rfl rfl)

theorem nu_k3 {w : World} {g : Nat} {id d a b c t : Int} (h : RowAt w g 13 (uq (nu0 id d a b c t))) (l : Int) : RowAt ((w.setCell ⟨g, 5, none⟩ (.int .i64 3)).setCell ⟨g, 12, none⟩ (.int .i64 l)) g 13 (uq ⟨id, d, a, b, c, 3, t, 0, 0, ByteArray.empty, 0, 0, l⟩) :=
 RowAt.same ((h.set (o := 5) (by omega) (.int .i64 3)).set (o := 12) (by omega) (.int .i64 l)) (uq_same rfl rfl rfl rfl rfl rfl rfl rfl rfl rfl rfl rfl rfl)

set_option maxHeartbeats 8000000 in
set_option maxRecDepth 100000 in
theorem l5Issued_any (r : M1.Rg) (x : M1.OpV) (now : Int) (av : Option Addr) (n cn : Nat) (w : World) (hU : IsUpds w av n cn r.us) (hxs : x.s.size ≤ maxLen) (HO : Hid (M1.rOk r = true)) :
  Calls Tryz.prog 49 #[.agg #[.int .i64 r.id, .int .i64 r.a, .int .i64 r.b, .int .i64 r.c, .slice av n cn], .agg #[.int .i64 x.k, .int .i64 x.t, .int .i64 x.id, .int .i64 x.pa, .string x.s, .int .i64 x.st, .int .i64 x.en], .int .i64 now] w fun e w' => IsS w w' e r x now ∧ Below w.heap.size w w' := by
 have hln : Hid (r.us.length = n) := hU.hlen
 have hA : Below w.heap.size w ((((w.alloc (.cells #[.int .i64 r.id, .int .i64 r.a, .int .i64 r.b, .int .i64 r.c, .slice av n cn] 28)).alloc (.cells #[.int .i64 x.k, .int .i64 x.t, .int .i64 x.id, .int .i64 x.pa, .string x.s, .int .i64 x.st, .int .i64 x.en] 32)).alloc (.cells #[.int .i64 0, .int .i64 0, .int .i64 0, .int .i64 0, .slice none 0 0] 28)).alloc (.cells #[.int .i64 0, .int .i64 0, .int .i64 0, .int .i64 0, .int .i64 0, .int .i64 0, .int .i64 0, .int .i64 0, .int .i64 0, .string ⟨#[]⟩, .int .i64 0, .int .i64 0, .int .i64 0] 38)) := ((((Below.refl _ _).alloc (Nat.le_refl _) _).alloc (by simp) _).alloc (by simp <;> omega) _).alloc (by simp <;> omega) _
 have P0 : RgAt ((((w.alloc (.cells #[.int .i64 r.id, .int .i64 r.a, .int .i64 r.b, .int .i64 r.c, .slice av n cn] 28)).alloc (.cells #[.int .i64 x.k, .int .i64 x.t, .int .i64 x.id, .int .i64 x.pa, .string x.s, .int .i64 x.st, .int .i64 x.en] 32)).alloc (.cells #[.int .i64 0, .int .i64 0, .int .i64 0, .int .i64 0, .slice none 0 0] 28)).alloc (.cells #[.int .i64 0, .int .i64 0, .int .i64 0, .int .i64 0, .int .i64 0, .int .i64 0, .int .i64 0, .int .i64 0, .int .i64 0, .string ⟨#[]⟩, .int .i64 0, .int .i64 0, .int .i64 0] 38)) w.heap.size r.id r.a r.b r.c av n cn := (((rg_new w r.id r.a r.b r.c av n cn 28).alloc _).alloc _).alloc _
 have o0 : OpAt ((((w.alloc (.cells #[.int .i64 r.id, .int .i64 r.a, .int .i64 r.b, .int .i64 r.c, .slice av n cn] 28)).alloc (.cells #[.int .i64 x.k, .int .i64 x.t, .int .i64 x.id, .int .i64 x.pa, .string x.s, .int .i64 x.st, .int .i64 x.en] 32)).alloc (.cells #[.int .i64 0, .int .i64 0, .int .i64 0, .int .i64 0, .slice none 0 0] 28)).alloc (.cells #[.int .i64 0, .int .i64 0, .int .i64 0, .int .i64 0, .int .i64 0, .int .i64 0, .int .i64 0, .int .i64 0, .int .i64 0, .string ⟨#[]⟩, .int .i64 0, .int .i64 0, .int .i64 0] 38)) (w.alloc (.cells #[.int .i64 r.id, .int .i64 r.a, .int .i64 r.b, .int .i64 r.c, .slice av n cn] 28)).heap.size x := ((op_new (w.alloc (.cells #[.int .i64 r.id, .int .i64 r.a, .int .i64 r.b, .int .i64 r.c, .slice av n cn] 28)) x 32).alloc _).alloc _
 have z0 : RgAt ((((w.alloc (.cells #[.int .i64 r.id, .int .i64 r.a, .int .i64 r.b, .int .i64 r.c, .slice av n cn] 28)).alloc (.cells #[.int .i64 x.k, .int .i64 x.t, .int .i64 x.id, .int .i64 x.pa, .string x.s, .int .i64 x.st, .int .i64 x.en] 32)).alloc (.cells #[.int .i64 0, .int .i64 0, .int .i64 0, .int .i64 0, .slice none 0 0] 28)).alloc (.cells #[.int .i64 0, .int .i64 0, .int .i64 0, .int .i64 0, .int .i64 0, .int .i64 0, .int .i64 0, .int .i64 0, .int .i64 0, .string ⟨#[]⟩, .int .i64 0, .int .i64 0, .int .i64 0] 38)) ((w.alloc (.cells #[.int .i64 r.id, .int .i64 r.a, .int .i64 r.b, .int .i64 r.c, .slice av n cn] 28)).alloc (.cells #[.int .i64 x.k, .int .i64 x.t, .int .i64 x.id, .int .i64 x.pa, .string x.s, .int .i64 x.st, .int .i64 x.en] 32)).heap.size 0 0 0 0 none 0 0 := (rg_new ((w.alloc (.cells #[.int .i64 r.id, .int .i64 r.a, .int .i64 r.b, .int .i64 r.c, .slice av n cn] 28)).alloc (.cells #[.int .i64 x.k, .int .i64 x.t, .int .i64 x.id, .int .i64 x.pa, .string x.s, .int .i64 x.st, .int .i64 x.en] 32)) 0 0 0 0 none 0 0 28).alloc _
 have y0 : RowAt ((((w.alloc (.cells #[.int .i64 r.id, .int .i64 r.a, .int .i64 r.b, .int .i64 r.c, .slice av n cn] 28)).alloc (.cells #[.int .i64 x.k, .int .i64 x.t, .int .i64 x.id, .int .i64 x.pa, .string x.s, .int .i64 x.st, .int .i64 x.en] 32)).alloc (.cells #[.int .i64 0, .int .i64 0, .int .i64 0, .int .i64 0, .slice none 0 0] 28)).alloc (.cells #[.int .i64 0, .int .i64 0, .int .i64 0, .int .i64 0, .int .i64 0, .int .i64 0, .int .i64 0, .int .i64 0, .int .i64 0, .string ⟨#[]⟩, .int .i64 0, .int .i64 0, .int .i64 0] 38)) (((w.alloc (.cells #[.int .i64 r.id, .int .i64 r.a, .int .i64 r.b, .int .i64 r.c, .slice av n cn] 28)).alloc (.cells #[.int .i64 x.k, .int .i64 x.t, .int .i64 x.id, .int .i64 x.pa, .string x.s, .int .i64 x.st, .int .i64 x.en] 32)).alloc (.cells #[.int .i64 0, .int .i64 0, .int .i64 0, .int .i64 0, .slice none 0 0] 28)).heap.size 13 (uq M1.zeroU) := uq_new (((w.alloc (.cells #[.int .i64 r.id, .int .i64 r.a, .int .i64 r.b, .int .i64 r.c, .slice av n cn] 28)).alloc (.cells #[.int .i64 x.k, .int .i64 x.t, .int .i64 x.id, .int .i64 x.pa, .string x.s, .int .i64 x.st, .int .i64 x.en] 32)).alloc (.cells #[.int .i64 0, .int .i64 0, .int .i64 0, .int .i64 0, .slice none 0 0] 28)) M1.zeroU 38
 rw [show (w.alloc (.cells #[.int .i64 r.id, .int .i64 r.a, .int .i64 r.b, .int .i64 r.c, .slice av n cn] 28)).heap.size = w.heap.size + 1 by simp] at o0
 rw [show ((w.alloc (.cells #[.int .i64 r.id, .int .i64 r.a, .int .i64 r.b, .int .i64 r.c, .slice av n cn] 28)).alloc (.cells #[.int .i64 x.k, .int .i64 x.t, .int .i64 x.id, .int .i64 x.pa, .string x.s, .int .i64 x.st, .int .i64 x.en] 32)).heap.size = w.heap.size + 1 + 1 by simp] at z0
 rw [show (((w.alloc (.cells #[.int .i64 r.id, .int .i64 r.a, .int .i64 r.b, .int .i64 r.c, .slice av n cn] 28)).alloc (.cells #[.int .i64 x.k, .int .i64 x.t, .int .i64 x.id, .int .i64 x.pa, .string x.s, .int .i64 x.st, .int .i64 x.en] 32)).alloc (.cells #[.int .i64 0, .int .i64 0, .int .i64 0, .int .i64 0, .slice none 0 0] 28)).heap.size = w.heap.size + 1 + 1 + 1 by simp] at y0
 go_enter Tryz.func49, Tryz.ntmps49
 go_upto_region 1 with fail
 obtain ⟨W0, hW0⟩ : ∃ W, ((((w.alloc (.cells #[.int .i64 r.id, .int .i64 r.a, .int .i64 r.b, .int .i64 r.c, .slice av n cn] 28)).alloc (.cells #[.int .i64 x.k, .int .i64 x.t, .int .i64 x.id, .int .i64 x.pa, .string x.s, .int .i64 x.st, .int .i64 x.en] 32)).alloc (.cells #[.int .i64 0, .int .i64 0, .int .i64 0, .int .i64 0, .slice none 0 0] 28)).alloc (.cells #[.int .i64 0, .int .i64 0, .int .i64 0, .int .i64 0, .int .i64 0, .int .i64 0, .int .i64 0, .int .i64 0, .int .i64 0, .string ⟨#[]⟩, .int .i64 0, .int .i64 0, .int .i64 0] 38)) = W := ⟨_, rfl⟩
 rw [hW0] at hA P0 o0 z0 y0 ⊢
 clear hW0
 obtain ⟨y, hy⟩ : ∃ y, Hid (w.heap.size + 1 + 1 + 1 = y) := ⟨_, rfl⟩
 obtain ⟨z, hz⟩ : ∃ z, Hid (w.heap.size + 1 + 1 = z) := ⟨_, rfl⟩
 obtain ⟨o, ho⟩ : ∃ o, Hid (w.heap.size + 1 = o) := ⟨_, rfl⟩
 obtain ⟨p, hp⟩ : ∃ p, Hid (w.heap.size = p) := ⟨_, rfl⟩
 have hyw : w.heap.size ≤ y := by have := hy.out; omega
 have hzw : w.heap.size ≤ z := by have := hz.out; omega
 have how : w.heap.size ≤ o := by have := ho.out; omega
 have hpw : w.heap.size ≤ p := by have := hp.out; omega
 have hyz : ¬ y = z := by have := hy.out; have := hz.out; omega
 have hzy : ¬ z = y := by have := hy.out; have := hz.out; omega
 have hpz : ¬ p = z := by have := hp.out; have := hz.out; omega
 have hpy : ¬ p = y := by have := hp.out; have := hy.out; omega
 have hoz : ¬ o = z := by have := ho.out; have := hz.out; omega
 have hoy : ¬ o = y := by have := ho.out; have := hy.out; omega
 rw [hy.out] at y0 ⊢
 rw [hz.out] at z0 ⊢
 rw [ho.out] at o0 ⊢
 rw [hp.out] at P0 ⊢
 have hn60 : n ≤ 60 := by have := (rOk_short HO.out).2; have := hln.out; omega
 have hs0 := hA.size
 have hyl := y0.lt
 have hzl := z0.lt
 have hol := o0.lt
 have hpl := P0.lt
 obtain ⟨d0, d1, d2, d3, d4⟩ := P0.cells
 have pl := P0.lt
 go_wp2_with fail
 refine (l5Copy_any r.id r.a r.b r.c r.us _ _ _ _ (hU.below hA) (by omega)).mono ?_
 rintro e w1 ⟨⟨v1, c1, rfl, mu1⟩, hb1⟩
 have B1 := hA.trans (hb1.mono hA.size)
 have hs1 := hb1.size
 clear d0 d1 d2 d3 d4 pl
 have P1 : RgAt w1 p r.id r.a r.b r.c av n cn := P0.below hb1
 have O1 : OpAt w1 o x := RowAt.below o0 hb1
 have Z1 : RgAt w1 z 0 0 0 0 none 0 0 := z0.below hb1
 have Y1 : RowAt w1 y 13 (uq M1.zeroU) := RowAt.below y0 hb1
 clear P0 o0 z0 y0
 have hb2 : Below w1.heap.size w1 (w1.alloc (.cells #[.int .i64 r.id, .int .i64 r.a, .int .i64 r.b, .int .i64 r.c, .slice v1 n c1] 28)) := (Below.refl _ _).alloc (Nat.le_refl _) _
 have Q2 := rg_new w1 r.id r.a r.b r.c v1 n c1 28
 go_upto_region 2 with fail
 obtain ⟨W2, hW2⟩ : ∃ W, w1.alloc (.cells #[.int .i64 r.id, .int .i64 r.a, .int .i64 r.b, .int .i64 r.c, .slice v1 n c1] 28) = W := ⟨_, rfl⟩
 rw [hW2] at hb2 Q2 ⊢
 clear hW2
 obtain ⟨ob, hob⟩ : ∃ b, Hid (w1.heap.size = b) := ⟨_, rfl⟩
 have hobw : w.heap.size ≤ ob := by have := hob.out; omega
 have hobz : ¬ ob = z := by have := hob.out; omega
 have hoby : ¬ ob = y := by have := hob.out; omega
 have hobp : ¬ ob = p := by have := hob.out; omega
 have hobo : ¬ ob = o := by have := hob.out; omega
 rw [hob.out] at Q2 ⊢
 have B2 := B1.trans (hb2.mono B1.size)
 have P2 : RgAt W2 p r.id r.a r.b r.c av n cn := P1.below hb2
 have O2 : OpAt W2 o x := RowAt.below O1 hb2
 have Z2 : RgAt W2 z 0 0 0 0 none 0 0 := Z1.below hb2
 have Y2 : RowAt W2 y 13 (uq M1.zeroU) := RowAt.below Y1 hb2
 have M2 : MU W2 v1 n c1 W0.heap.size w1.heap.size (ucell r.us) := mu1.below hb2
 clear P1 O1 Z1 Y1 mu1
 have hsz : w1.heap.size ≤ W2.heap.size := hb2.size
 have hzq : ∀ q, v1 = some q → ¬ q.block = z := fun q hq => by
  rcases M2.2.2 with ⟨_, e⟩ | ⟨g, e, h1, _, _⟩
  ·rw [e] at hq; cases hq
  ·rw [e] at hq; cases hq; show ¬ g = z; omega
 obtain ⟨o3, ho3⟩ : ∃ o, Hid (M1.opB x = o) := ⟨_, rfl⟩
 obtain ⟨e0, e1, e2, e3, e4, e5, e6⟩ := OpAt.cells (x := x) O2
 have ol := O2.lt
 go_wp2_with fail
 refine (l5Form_any x.k x.t x.id x.pa x.st x.en x.s _ hxs).mono ?_
 rw [show M1.opB ⟨x.k, x.t, x.id, x.pa, x.s, x.st, x.en⟩ = o3 from ho3.out]
 rintro e w3 ⟨rfl, hb3⟩
 have B3 := B2.trans (hb3.mono B2.size)
 replace hsz : w1.heap.size ≤ w3.heap.size := Nat.le_trans hsz hb3.size
 clear e0 e1 e2 e3 e4 e5 e6 ol
 have P3 : RgAt w3 p r.id r.a r.b r.c av n cn := P2.below hb3
 have O3 : OpAt w3 o x := RowAt.below O2 hb3
 have Z3 : RgAt w3 z 0 0 0 0 none 0 0 := Z2.below hb3
 have Y3 : RowAt w3 y 13 (uq M1.zeroU) := RowAt.below Y2 hb3
 have M3 : MU w3 v1 n c1 W0.heap.size w1.heap.size (ucell r.us) := M2.below hb3
 have Q3 : RgAt w3 ob r.id r.a r.b r.c v1 n c1 := Q2.below hb3
 clear P2 O2 Z2 Y2 M2 Q2
 cases o3 with
 | false =>
  have HC : Hid (M1.isC r x now = 2 ∧ M1.isR r x now = r ∧ M1.isU r x now = M1.zeroU) := M1.is_2 HO.out (M1.isF_2 ho3.out)
  obtain ⟨q0, q1, q2, q3, q4⟩ := Q3.cells
  have ql := Q3.lt
  have mu9 := mu_high M3 hsz
  obtain ⟨a0, a1, a2, a3, a4⟩ := Z3.cells
  obtain ⟨b0, b1, b2, b3, b4⟩ := Z3.frees
  have zl9 := Z3.lt
  obtain ⟨ca0, ca1, ca2, ca3, ca4, ca5, ca6, ca7, ca8, ca9, ca10, ca11, ca12⟩ := uq_cells Y3
  obtain ⟨fa0, fa1, fa2, fa3, fa4, fa5, fa6, fa7, fa8, fa9, fa10, fa11, fa12⟩ := uq_free Y3
  have yl9 := Y3.lt
  have zf : RgAt (((((w3.setCell ⟨z, 0, none⟩ (.int .i64 r.id)).setCell ⟨z, 1, none⟩ (.int .i64 r.a)).setCell ⟨z, 2, none⟩ (.int .i64 r.b)).setCell ⟨z, 3, none⟩ (.int .i64 r.c)).setCell ⟨z, 4, none⟩ (.slice v1 n c1)) z r.id r.a r.b r.c v1 n c1 := Z3.put r.id r.a r.b r.c v1 n c1
  have yf : RowAt (((((w3.setCell ⟨z, 0, none⟩ (.int .i64 r.id)).setCell ⟨z, 1, none⟩ (.int .i64 r.a)).setCell ⟨z, 2, none⟩ (.int .i64 r.b)).setCell ⟨z, 3, none⟩ (.int .i64 r.c)).setCell ⟨z, 4, none⟩ (.slice v1 n c1)) y 13 (uq M1.zeroU) := far5 Y3 hzy _ _ _ _ _
  have zz : RowAt ((((((((((((((((((w3.setCell ⟨z, 0, none⟩ (.int .i64 r.id)).setCell ⟨z, 1, none⟩ (.int .i64 r.a)).setCell ⟨z, 2, none⟩ (.int .i64 r.b)).setCell ⟨z, 3, none⟩ (.int .i64 r.c)).setCell ⟨z, 4, none⟩ (.slice v1 n c1)).setCell ⟨y, 0, none⟩ (.int .i64 0)).setCell ⟨y, 1, none⟩ (.int .i64 0)).setCell ⟨y, 2, none⟩ (.int .i64 0)).setCell ⟨y, 3, none⟩ (.int .i64 0)).setCell ⟨y, 4, none⟩ (.int .i64 0)).setCell ⟨y, 5, none⟩ (.int .i64 0)).setCell ⟨y, 6, none⟩ (.int .i64 0)).setCell ⟨y, 7, none⟩ (.int .i64 0)).setCell ⟨y, 8, none⟩ (.int .i64 0)).setCell ⟨y, 9, none⟩ (.string ⟨#[]⟩)).setCell ⟨y, 10, none⟩ (.int .i64 0)).setCell ⟨y, 11, none⟩ (.int .i64 0)).setCell ⟨y, 12, none⟩ (.int .i64 0)) y 13 (uq M1.zeroU) := uq_put yf M1.zeroU
  have zr : RgAt ((((((((((((((((((w3.setCell ⟨z, 0, none⟩ (.int .i64 r.id)).setCell ⟨z, 1, none⟩ (.int .i64 r.a)).setCell ⟨z, 2, none⟩ (.int .i64 r.b)).setCell ⟨z, 3, none⟩ (.int .i64 r.c)).setCell ⟨z, 4, none⟩ (.slice v1 n c1)).setCell ⟨y, 0, none⟩ (.int .i64 0)).setCell ⟨y, 1, none⟩ (.int .i64 0)).setCell ⟨y, 2, none⟩ (.int .i64 0)).setCell ⟨y, 3, none⟩ (.int .i64 0)).setCell ⟨y, 4, none⟩ (.int .i64 0)).setCell ⟨y, 5, none⟩ (.int .i64 0)).setCell ⟨y, 6, none⟩ (.int .i64 0)).setCell ⟨y, 7, none⟩ (.int .i64 0)).setCell ⟨y, 8, none⟩ (.int .i64 0)).setCell ⟨y, 9, none⟩ (.string ⟨#[]⟩)).setCell ⟨y, 10, none⟩ (.int .i64 0)).setCell ⟨y, 11, none⟩ (.int .i64 0)).setCell ⟨y, 12, none⟩ (.int .i64 0)) z r.id r.a r.b r.c v1 n c1 := far13 zf hyz M1.zeroU
  have BB : Below w.heap.size w ((((((((((((((((((w3.setCell ⟨z, 0, none⟩ (.int .i64 r.id)).setCell ⟨z, 1, none⟩ (.int .i64 r.a)).setCell ⟨z, 2, none⟩ (.int .i64 r.b)).setCell ⟨z, 3, none⟩ (.int .i64 r.c)).setCell ⟨z, 4, none⟩ (.slice v1 n c1)).setCell ⟨y, 0, none⟩ (.int .i64 0)).setCell ⟨y, 1, none⟩ (.int .i64 0)).setCell ⟨y, 2, none⟩ (.int .i64 0)).setCell ⟨y, 3, none⟩ (.int .i64 0)).setCell ⟨y, 4, none⟩ (.int .i64 0)).setCell ⟨y, 5, none⟩ (.int .i64 0)).setCell ⟨y, 6, none⟩ (.int .i64 0)).setCell ⟨y, 7, none⟩ (.int .i64 0)).setCell ⟨y, 8, none⟩ (.int .i64 0)).setCell ⟨y, 9, none⟩ (.string ⟨#[]⟩)).setCell ⟨y, 10, none⟩ (.int .i64 0)).setCell ⟨y, 11, none⟩ (.int .i64 0)).setCell ⟨y, 12, none⟩ (.int .i64 0)) := bel_put (bel_put5 B3 hzw _ _ _ _ _) hyw M1.zeroU
  have hm : MU ((((((((((((((((((w3.setCell ⟨z, 0, none⟩ (.int .i64 r.id)).setCell ⟨z, 1, none⟩ (.int .i64 r.a)).setCell ⟨z, 2, none⟩ (.int .i64 r.b)).setCell ⟨z, 3, none⟩ (.int .i64 r.c)).setCell ⟨z, 4, none⟩ (.slice v1 n c1)).setCell ⟨y, 0, none⟩ (.int .i64 0)).setCell ⟨y, 1, none⟩ (.int .i64 0)).setCell ⟨y, 2, none⟩ (.int .i64 0)).setCell ⟨y, 3, none⟩ (.int .i64 0)).setCell ⟨y, 4, none⟩ (.int .i64 0)).setCell ⟨y, 5, none⟩ (.int .i64 0)).setCell ⟨y, 6, none⟩ (.int .i64 0)).setCell ⟨y, 7, none⟩ (.int .i64 0)).setCell ⟨y, 8, none⟩ (.int .i64 0)).setCell ⟨y, 9, none⟩ (.string ⟨#[]⟩)).setCell ⟨y, 10, none⟩ (.int .i64 0)).setCell ⟨y, 11, none⟩ (.int .i64 0)).setCell ⟨y, 12, none⟩ (.int .i64 0)) v1 n c1 W0.heap.size ((((((((((((((((((w3.setCell ⟨z, 0, none⟩ (.int .i64 r.id)).setCell ⟨z, 1, none⟩ (.int .i64 r.a)).setCell ⟨z, 2, none⟩ (.int .i64 r.b)).setCell ⟨z, 3, none⟩ (.int .i64 r.c)).setCell ⟨z, 4, none⟩ (.slice v1 n c1)).setCell ⟨y, 0, none⟩ (.int .i64 0)).setCell ⟨y, 1, none⟩ (.int .i64 0)).setCell ⟨y, 2, none⟩ (.int .i64 0)).setCell ⟨y, 3, none⟩ (.int .i64 0)).setCell ⟨y, 4, none⟩ (.int .i64 0)).setCell ⟨y, 5, none⟩ (.int .i64 0)).setCell ⟨y, 6, none⟩ (.int .i64 0)).setCell ⟨y, 7, none⟩ (.int .i64 0)).setCell ⟨y, 8, none⟩ (.int .i64 0)).setCell ⟨y, 9, none⟩ (.string ⟨#[]⟩)).setCell ⟨y, 10, none⟩ (.int .i64 0)).setCell ⟨y, 11, none⟩ (.int .i64 0)).setCell ⟨y, 12, none⟩ (.int .i64 0)).heap.size (ucell r.us) := mu_both mu9 hzq hyl _ _ _ _ _ M1.zeroU
  go_wp2_with fail
  clear a0 a1 a2 a3 a4 b0 b1 b2 b3 b4 ca0 ca1 ca2 ca3 ca4 ca5 ca6 ca7 ca8 ca9 ca10 ca11 ca12 fa0 fa1 fa2 fa3 fa4 fa5 fa6 fa7 fa8 fa9 fa10 fa11 fa12 zf yf
  obtain ⟨Wz, hWz⟩ : ∃ W, ((((((((((((((((((w3.setCell ⟨z, 0, none⟩ (.int .i64 r.id)).setCell ⟨z, 1, none⟩ (.int .i64 r.a)).setCell ⟨z, 2, none⟩ (.int .i64 r.b)).setCell ⟨z, 3, none⟩ (.int .i64 r.c)).setCell ⟨z, 4, none⟩ (.slice v1 n c1)).setCell ⟨y, 0, none⟩ (.int .i64 0)).setCell ⟨y, 1, none⟩ (.int .i64 0)).setCell ⟨y, 2, none⟩ (.int .i64 0)).setCell ⟨y, 3, none⟩ (.int .i64 0)).setCell ⟨y, 4, none⟩ (.int .i64 0)).setCell ⟨y, 5, none⟩ (.int .i64 0)).setCell ⟨y, 6, none⟩ (.int .i64 0)).setCell ⟨y, 7, none⟩ (.int .i64 0)).setCell ⟨y, 8, none⟩ (.int .i64 0)).setCell ⟨y, 9, none⟩ (.string ⟨#[]⟩)).setCell ⟨y, 10, none⟩ (.int .i64 0)).setCell ⟨y, 11, none⟩ (.int .i64 0)).setCell ⟨y, 12, none⟩ (.int .i64 0)) = W := ⟨_, rfl⟩
  rw [hWz] at zz zr BB hm ⊢
  clear hWz
  obtain ⟨r0, r1, r2, r3, r4⟩ := zr.cells
  obtain ⟨va0, va1, va2, va3, va4, va5, va6, va7, va8, va9, va10, va11, va12⟩ := uq_cells zz
  unfold M1.zeroU at va0 va1 va2 va3 va4 va5 va6 va7 va8 va9 va10 va11 va12
  refine bodyPost_ret (v := .tuple #[.agg #[.int .i64 r.id, .int .i64 r.a, .int .i64 r.b, .int .i64 r.c, .slice v1 n c1], .agg #[.int .i64 0, .int .i64 0, .int .i64 0, .int .i64 0, .int .i64 0, .int .i64 0, .int .i64 0, .int .i64 0, .int .i64 0, .string ByteArray.empty, .int .i64 0, .int .i64 0, .int .i64 0], .int .i64 2]) (by simp [results, Tryz.results49, go_sem, r0, r1, r2, r3, r4, va0, va1, va2, va3, va4, va5, va6, va7, va8, va9, va10, va11, va12]) rfl ?_
  exact ⟨⟨_, by rw [HC.out.1, HC.out.2.2]; rfl, by rw [HC.out.2.1]; exact ⟨v1, c1, by rw [hln.out], by rw [hln.out]; exact mu_low hm hs0⟩⟩, BB⟩
 | true =>
  obtain ⟨o2, ho2⟩ : ∃ o, Hid (M1.inB now 0 1000000000 = o) := ⟨_, rfl⟩
  go_wp2_with fail
  refine (l1In_any _ _ _ _).mono ?_
  rw [ho2.out]
  rintro e w4 ⟨rfl, hw4⟩
  obtain rfl := hw4.symm
  cases o2 with
  | false =>
   have HC : Hid (M1.isC r x now = 2 ∧ M1.isR r x now = r ∧ M1.isU r x now = M1.zeroU) := M1.is_2 HO.out (M1.isF_1 ho2.out)
   obtain ⟨q0, q1, q2, q3, q4⟩ := Q3.cells
   have ql := Q3.lt
   have mu9 := mu_high M3 hsz
   obtain ⟨a0, a1, a2, a3, a4⟩ := Z3.cells
   obtain ⟨b0, b1, b2, b3, b4⟩ := Z3.frees
   have zl9 := Z3.lt
   obtain ⟨ca0, ca1, ca2, ca3, ca4, ca5, ca6, ca7, ca8, ca9, ca10, ca11, ca12⟩ := uq_cells Y3
   obtain ⟨fa0, fa1, fa2, fa3, fa4, fa5, fa6, fa7, fa8, fa9, fa10, fa11, fa12⟩ := uq_free Y3
   have yl9 := Y3.lt
   have zf : RgAt (((((w3.setCell ⟨z, 0, none⟩ (.int .i64 r.id)).setCell ⟨z, 1, none⟩ (.int .i64 r.a)).setCell ⟨z, 2, none⟩ (.int .i64 r.b)).setCell ⟨z, 3, none⟩ (.int .i64 r.c)).setCell ⟨z, 4, none⟩ (.slice v1 n c1)) z r.id r.a r.b r.c v1 n c1 := Z3.put r.id r.a r.b r.c v1 n c1
   have yf : RowAt (((((w3.setCell ⟨z, 0, none⟩ (.int .i64 r.id)).setCell ⟨z, 1, none⟩ (.int .i64 r.a)).setCell ⟨z, 2, none⟩ (.int .i64 r.b)).setCell ⟨z, 3, none⟩ (.int .i64 r.c)).setCell ⟨z, 4, none⟩ (.slice v1 n c1)) y 13 (uq M1.zeroU) := far5 Y3 hzy _ _ _ _ _
   have zz : RowAt ((((((((((((((((((w3.setCell ⟨z, 0, none⟩ (.int .i64 r.id)).setCell ⟨z, 1, none⟩ (.int .i64 r.a)).setCell ⟨z, 2, none⟩ (.int .i64 r.b)).setCell ⟨z, 3, none⟩ (.int .i64 r.c)).setCell ⟨z, 4, none⟩ (.slice v1 n c1)).setCell ⟨y, 0, none⟩ (.int .i64 0)).setCell ⟨y, 1, none⟩ (.int .i64 0)).setCell ⟨y, 2, none⟩ (.int .i64 0)).setCell ⟨y, 3, none⟩ (.int .i64 0)).setCell ⟨y, 4, none⟩ (.int .i64 0)).setCell ⟨y, 5, none⟩ (.int .i64 0)).setCell ⟨y, 6, none⟩ (.int .i64 0)).setCell ⟨y, 7, none⟩ (.int .i64 0)).setCell ⟨y, 8, none⟩ (.int .i64 0)).setCell ⟨y, 9, none⟩ (.string ⟨#[]⟩)).setCell ⟨y, 10, none⟩ (.int .i64 0)).setCell ⟨y, 11, none⟩ (.int .i64 0)).setCell ⟨y, 12, none⟩ (.int .i64 0)) y 13 (uq M1.zeroU) := uq_put yf M1.zeroU
   have zr : RgAt ((((((((((((((((((w3.setCell ⟨z, 0, none⟩ (.int .i64 r.id)).setCell ⟨z, 1, none⟩ (.int .i64 r.a)).setCell ⟨z, 2, none⟩ (.int .i64 r.b)).setCell ⟨z, 3, none⟩ (.int .i64 r.c)).setCell ⟨z, 4, none⟩ (.slice v1 n c1)).setCell ⟨y, 0, none⟩ (.int .i64 0)).setCell ⟨y, 1, none⟩ (.int .i64 0)).setCell ⟨y, 2, none⟩ (.int .i64 0)).setCell ⟨y, 3, none⟩ (.int .i64 0)).setCell ⟨y, 4, none⟩ (.int .i64 0)).setCell ⟨y, 5, none⟩ (.int .i64 0)).setCell ⟨y, 6, none⟩ (.int .i64 0)).setCell ⟨y, 7, none⟩ (.int .i64 0)).setCell ⟨y, 8, none⟩ (.int .i64 0)).setCell ⟨y, 9, none⟩ (.string ⟨#[]⟩)).setCell ⟨y, 10, none⟩ (.int .i64 0)).setCell ⟨y, 11, none⟩ (.int .i64 0)).setCell ⟨y, 12, none⟩ (.int .i64 0)) z r.id r.a r.b r.c v1 n c1 := far13 zf hyz M1.zeroU
   have BB : Below w.heap.size w ((((((((((((((((((w3.setCell ⟨z, 0, none⟩ (.int .i64 r.id)).setCell ⟨z, 1, none⟩ (.int .i64 r.a)).setCell ⟨z, 2, none⟩ (.int .i64 r.b)).setCell ⟨z, 3, none⟩ (.int .i64 r.c)).setCell ⟨z, 4, none⟩ (.slice v1 n c1)).setCell ⟨y, 0, none⟩ (.int .i64 0)).setCell ⟨y, 1, none⟩ (.int .i64 0)).setCell ⟨y, 2, none⟩ (.int .i64 0)).setCell ⟨y, 3, none⟩ (.int .i64 0)).setCell ⟨y, 4, none⟩ (.int .i64 0)).setCell ⟨y, 5, none⟩ (.int .i64 0)).setCell ⟨y, 6, none⟩ (.int .i64 0)).setCell ⟨y, 7, none⟩ (.int .i64 0)).setCell ⟨y, 8, none⟩ (.int .i64 0)).setCell ⟨y, 9, none⟩ (.string ⟨#[]⟩)).setCell ⟨y, 10, none⟩ (.int .i64 0)).setCell ⟨y, 11, none⟩ (.int .i64 0)).setCell ⟨y, 12, none⟩ (.int .i64 0)) := bel_put (bel_put5 B3 hzw _ _ _ _ _) hyw M1.zeroU
   have hm : MU ((((((((((((((((((w3.setCell ⟨z, 0, none⟩ (.int .i64 r.id)).setCell ⟨z, 1, none⟩ (.int .i64 r.a)).setCell ⟨z, 2, none⟩ (.int .i64 r.b)).setCell ⟨z, 3, none⟩ (.int .i64 r.c)).setCell ⟨z, 4, none⟩ (.slice v1 n c1)).setCell ⟨y, 0, none⟩ (.int .i64 0)).setCell ⟨y, 1, none⟩ (.int .i64 0)).setCell ⟨y, 2, none⟩ (.int .i64 0)).setCell ⟨y, 3, none⟩ (.int .i64 0)).setCell ⟨y, 4, none⟩ (.int .i64 0)).setCell ⟨y, 5, none⟩ (.int .i64 0)).setCell ⟨y, 6, none⟩ (.int .i64 0)).setCell ⟨y, 7, none⟩ (.int .i64 0)).setCell ⟨y, 8, none⟩ (.int .i64 0)).setCell ⟨y, 9, none⟩ (.string ⟨#[]⟩)).setCell ⟨y, 10, none⟩ (.int .i64 0)).setCell ⟨y, 11, none⟩ (.int .i64 0)).setCell ⟨y, 12, none⟩ (.int .i64 0)) v1 n c1 W0.heap.size ((((((((((((((((((w3.setCell ⟨z, 0, none⟩ (.int .i64 r.id)).setCell ⟨z, 1, none⟩ (.int .i64 r.a)).setCell ⟨z, 2, none⟩ (.int .i64 r.b)).setCell ⟨z, 3, none⟩ (.int .i64 r.c)).setCell ⟨z, 4, none⟩ (.slice v1 n c1)).setCell ⟨y, 0, none⟩ (.int .i64 0)).setCell ⟨y, 1, none⟩ (.int .i64 0)).setCell ⟨y, 2, none⟩ (.int .i64 0)).setCell ⟨y, 3, none⟩ (.int .i64 0)).setCell ⟨y, 4, none⟩ (.int .i64 0)).setCell ⟨y, 5, none⟩ (.int .i64 0)).setCell ⟨y, 6, none⟩ (.int .i64 0)).setCell ⟨y, 7, none⟩ (.int .i64 0)).setCell ⟨y, 8, none⟩ (.int .i64 0)).setCell ⟨y, 9, none⟩ (.string ⟨#[]⟩)).setCell ⟨y, 10, none⟩ (.int .i64 0)).setCell ⟨y, 11, none⟩ (.int .i64 0)).setCell ⟨y, 12, none⟩ (.int .i64 0)).heap.size (ucell r.us) := mu_both mu9 hzq hyl _ _ _ _ _ M1.zeroU
   go_wp2_with fail
   clear a0 a1 a2 a3 a4 b0 b1 b2 b3 b4 ca0 ca1 ca2 ca3 ca4 ca5 ca6 ca7 ca8 ca9 ca10 ca11 ca12 fa0 fa1 fa2 fa3 fa4 fa5 fa6 fa7 fa8 fa9 fa10 fa11 fa12 zf yf
   obtain ⟨Wz, hWz⟩ : ∃ W, ((((((((((((((((((w3.setCell ⟨z, 0, none⟩ (.int .i64 r.id)).setCell ⟨z, 1, none⟩ (.int .i64 r.a)).setCell ⟨z, 2, none⟩ (.int .i64 r.b)).setCell ⟨z, 3, none⟩ (.int .i64 r.c)).setCell ⟨z, 4, none⟩ (.slice v1 n c1)).setCell ⟨y, 0, none⟩ (.int .i64 0)).setCell ⟨y, 1, none⟩ (.int .i64 0)).setCell ⟨y, 2, none⟩ (.int .i64 0)).setCell ⟨y, 3, none⟩ (.int .i64 0)).setCell ⟨y, 4, none⟩ (.int .i64 0)).setCell ⟨y, 5, none⟩ (.int .i64 0)).setCell ⟨y, 6, none⟩ (.int .i64 0)).setCell ⟨y, 7, none⟩ (.int .i64 0)).setCell ⟨y, 8, none⟩ (.int .i64 0)).setCell ⟨y, 9, none⟩ (.string ⟨#[]⟩)).setCell ⟨y, 10, none⟩ (.int .i64 0)).setCell ⟨y, 11, none⟩ (.int .i64 0)).setCell ⟨y, 12, none⟩ (.int .i64 0)) = W := ⟨_, rfl⟩
   rw [hWz] at zz zr BB hm ⊢
   clear hWz
   obtain ⟨r0, r1, r2, r3, r4⟩ := zr.cells
   obtain ⟨va0, va1, va2, va3, va4, va5, va6, va7, va8, va9, va10, va11, va12⟩ := uq_cells zz
   unfold M1.zeroU at va0 va1 va2 va3 va4 va5 va6 va7 va8 va9 va10 va11 va12
   refine bodyPost_ret (v := .tuple #[.agg #[.int .i64 r.id, .int .i64 r.a, .int .i64 r.b, .int .i64 r.c, .slice v1 n c1], .agg #[.int .i64 0, .int .i64 0, .int .i64 0, .int .i64 0, .int .i64 0, .int .i64 0, .int .i64 0, .int .i64 0, .int .i64 0, .string ByteArray.empty, .int .i64 0, .int .i64 0, .int .i64 0], .int .i64 2]) (by simp [results, Tryz.results49, go_sem, r0, r1, r2, r3, r4, va0, va1, va2, va3, va4, va5, va6, va7, va8, va9, va10, va11, va12]) rfl ?_
   exact ⟨⟨_, by rw [HC.out.1, HC.out.2.2]; rfl, by rw [HC.out.2.1]; exact ⟨v1, c1, by rw [hln.out], by rw [hln.out]; exact mu_low hm hs0⟩⟩, BB⟩
  | true =>
   have HF : Hid (M1.isF x now = false) := M1.isF_0 ho2.out ho3.out
   have hset : Hid (M1.setOk r.us = true) := M1.rOk_set HO.out
   obtain ⟨lv, hlv⟩ : ∃ l, Hid (M1.lvT r.us x.t = l) := ⟨_, rfl⟩
   have l0 : 0 ≤ lv := by rw [← hlv.out]; exact M1.lvl_nonneg _
   have l1 : lv ≤ 1000000 := by rw [← hlv.out]; exact M1.lvT_bd hset.out x.t
   obtain ⟨d0, d1, d2, d3, d4⟩ := P3.cells
   have pl := P3.lt
   obtain ⟨e0, e1, e2, e3, e4, e5, e6⟩ := OpAt.cells (x := x) O3
   have ol := O3.lt
   go_wp2_with fail
   refine (l4Level_any _ _ _ r.us x.t _ (hU.below B3)).mono ?_
   rw [show M1.lvl (M1.ofT 3 x.t r.us n) = lv by rw [← hln.out]; exact hlv.out]
   rintro e w5 ⟨rfl, hw5⟩
   obtain rfl := hw5.symm
   go_upto_region 5 with fail
   go_cut [48] (fun v wc => v = .bool (!(M1.letsB r.us x)) ∧ wc = w3)
   case first =>
    by_cases k3 : x.k = 3
    ·have q3 : (x.k == 3) = true := by simp [k3]
     have q4 : (x.k == 4) = false := by simp [k3]
     rcases (by omega : lv % 2 = 0 ∨ lv % 2 = 1) with m | m
     ·have H : Hid (M1.letsB r.us x = true) := M1.lets_even k3 (by rw [hlv.out]; exact m)
      have m1 : (lv % 2 == 1) = false := by simp [m]
      have m0 : (lv % 2 == 0) = true := by simp [m]
      clear m k3
      go_wp2_with fail
      go_meet
      exact ⟨by rw [H.out]; rfl, rfl⟩
     ·have H : Hid (M1.letsB r.us x = false) := M1.lets_odd k3 (by rw [hlv.out]; exact m)
      have m1 : (lv % 2 == 1) = true := by simp [m]
      have m0 : (lv % 2 == 0) = false := by simp [m]
      clear m k3
      go_wp2_with fail
      go_meet
      exact ⟨by rw [H.out]; rfl, rfl⟩
    ·have q3 : (x.k == 3) = false := by simp [k3]
     by_cases k4 : x.k = 4
     ·have q4 : (x.k == 4) = true := by simp [k4]
      rcases (by omega : lv % 2 = 0 ∨ lv % 2 = 1) with m | m
      ·have H : Hid (M1.letsB r.us x = false) := M1.lets_even4 k4 (by rw [hlv.out]; exact m)
       have m1 : (lv % 2 == 1) = false := by simp [m]
       have m0 : (lv % 2 == 0) = true := by simp [m]
       clear m k3 k4
       go_wp2_with fail
       go_meet
       exact ⟨by rw [H.out]; rfl, rfl⟩
      ·have H : Hid (M1.letsB r.us x = true) := M1.lets_odd4 k4 (by rw [hlv.out]; exact m)
       have m1 : (lv % 2 == 1) = true := by simp [m]
       have m0 : (lv % 2 == 0) = false := by simp [m]
       clear m k3 k4
       go_wp2_with fail
       go_meet
       exact ⟨by rw [H.out]; rfl, rfl⟩
     ·have q4 : (x.k == 4) = false := by simp [k4]
      have H : Hid (M1.letsB r.us x = true) := M1.lets_0 k3 k4
      clear k3 k4
      go_wp2_with fail
      go_meet
      exact ⟨by rw [H.out]; rfl, rfl⟩
   case rest =>
    obtain ⟨rfl, hwc⟩ := hcut
    obtain rfl := hwc.symm
    obtain ⟨o4, ho4⟩ : ∃ o, Hid (M1.letsB r.us x = o) := ⟨_, rfl⟩
    rw [ho4.out]
    clear d0 d1 d2 d3 d4 pl e0 e1 e2 e3 e4 e5 e6 ol
    cases o4 with
    | false =>
     have HC : Hid (M1.isC r x now = 5 ∧ M1.isR r x now = r ∧ M1.isU r x now = M1.zeroU) := M1.is_5 HO.out HF.out ho4.out
     obtain ⟨q0, q1, q2, q3, q4⟩ := Q3.cells
     have ql := Q3.lt
     have mu9 := mu_high M3 hsz
     obtain ⟨a0, a1, a2, a3, a4⟩ := Z3.cells
     obtain ⟨b0, b1, b2, b3, b4⟩ := Z3.frees
     have zl9 := Z3.lt
     obtain ⟨ca0, ca1, ca2, ca3, ca4, ca5, ca6, ca7, ca8, ca9, ca10, ca11, ca12⟩ := uq_cells Y3
     obtain ⟨fa0, fa1, fa2, fa3, fa4, fa5, fa6, fa7, fa8, fa9, fa10, fa11, fa12⟩ := uq_free Y3
     have yl9 := Y3.lt
     have zf : RgAt (((((w3.setCell ⟨z, 0, none⟩ (.int .i64 r.id)).setCell ⟨z, 1, none⟩ (.int .i64 r.a)).setCell ⟨z, 2, none⟩ (.int .i64 r.b)).setCell ⟨z, 3, none⟩ (.int .i64 r.c)).setCell ⟨z, 4, none⟩ (.slice v1 n c1)) z r.id r.a r.b r.c v1 n c1 := Z3.put r.id r.a r.b r.c v1 n c1
     have yf : RowAt (((((w3.setCell ⟨z, 0, none⟩ (.int .i64 r.id)).setCell ⟨z, 1, none⟩ (.int .i64 r.a)).setCell ⟨z, 2, none⟩ (.int .i64 r.b)).setCell ⟨z, 3, none⟩ (.int .i64 r.c)).setCell ⟨z, 4, none⟩ (.slice v1 n c1)) y 13 (uq M1.zeroU) := far5 Y3 hzy _ _ _ _ _
     have zz : RowAt ((((((((((((((((((w3.setCell ⟨z, 0, none⟩ (.int .i64 r.id)).setCell ⟨z, 1, none⟩ (.int .i64 r.a)).setCell ⟨z, 2, none⟩ (.int .i64 r.b)).setCell ⟨z, 3, none⟩ (.int .i64 r.c)).setCell ⟨z, 4, none⟩ (.slice v1 n c1)).setCell ⟨y, 0, none⟩ (.int .i64 0)).setCell ⟨y, 1, none⟩ (.int .i64 0)).setCell ⟨y, 2, none⟩ (.int .i64 0)).setCell ⟨y, 3, none⟩ (.int .i64 0)).setCell ⟨y, 4, none⟩ (.int .i64 0)).setCell ⟨y, 5, none⟩ (.int .i64 0)).setCell ⟨y, 6, none⟩ (.int .i64 0)).setCell ⟨y, 7, none⟩ (.int .i64 0)).setCell ⟨y, 8, none⟩ (.int .i64 0)).setCell ⟨y, 9, none⟩ (.string ⟨#[]⟩)).setCell ⟨y, 10, none⟩ (.int .i64 0)).setCell ⟨y, 11, none⟩ (.int .i64 0)).setCell ⟨y, 12, none⟩ (.int .i64 0)) y 13 (uq M1.zeroU) := uq_put yf M1.zeroU
     have zr : RgAt ((((((((((((((((((w3.setCell ⟨z, 0, none⟩ (.int .i64 r.id)).setCell ⟨z, 1, none⟩ (.int .i64 r.a)).setCell ⟨z, 2, none⟩ (.int .i64 r.b)).setCell ⟨z, 3, none⟩ (.int .i64 r.c)).setCell ⟨z, 4, none⟩ (.slice v1 n c1)).setCell ⟨y, 0, none⟩ (.int .i64 0)).setCell ⟨y, 1, none⟩ (.int .i64 0)).setCell ⟨y, 2, none⟩ (.int .i64 0)).setCell ⟨y, 3, none⟩ (.int .i64 0)).setCell ⟨y, 4, none⟩ (.int .i64 0)).setCell ⟨y, 5, none⟩ (.int .i64 0)).setCell ⟨y, 6, none⟩ (.int .i64 0)).setCell ⟨y, 7, none⟩ (.int .i64 0)).setCell ⟨y, 8, none⟩ (.int .i64 0)).setCell ⟨y, 9, none⟩ (.string ⟨#[]⟩)).setCell ⟨y, 10, none⟩ (.int .i64 0)).setCell ⟨y, 11, none⟩ (.int .i64 0)).setCell ⟨y, 12, none⟩ (.int .i64 0)) z r.id r.a r.b r.c v1 n c1 := far13 zf hyz M1.zeroU
     have BB : Below w.heap.size w ((((((((((((((((((w3.setCell ⟨z, 0, none⟩ (.int .i64 r.id)).setCell ⟨z, 1, none⟩ (.int .i64 r.a)).setCell ⟨z, 2, none⟩ (.int .i64 r.b)).setCell ⟨z, 3, none⟩ (.int .i64 r.c)).setCell ⟨z, 4, none⟩ (.slice v1 n c1)).setCell ⟨y, 0, none⟩ (.int .i64 0)).setCell ⟨y, 1, none⟩ (.int .i64 0)).setCell ⟨y, 2, none⟩ (.int .i64 0)).setCell ⟨y, 3, none⟩ (.int .i64 0)).setCell ⟨y, 4, none⟩ (.int .i64 0)).setCell ⟨y, 5, none⟩ (.int .i64 0)).setCell ⟨y, 6, none⟩ (.int .i64 0)).setCell ⟨y, 7, none⟩ (.int .i64 0)).setCell ⟨y, 8, none⟩ (.int .i64 0)).setCell ⟨y, 9, none⟩ (.string ⟨#[]⟩)).setCell ⟨y, 10, none⟩ (.int .i64 0)).setCell ⟨y, 11, none⟩ (.int .i64 0)).setCell ⟨y, 12, none⟩ (.int .i64 0)) := bel_put (bel_put5 B3 hzw _ _ _ _ _) hyw M1.zeroU
     have hm : MU ((((((((((((((((((w3.setCell ⟨z, 0, none⟩ (.int .i64 r.id)).setCell ⟨z, 1, none⟩ (.int .i64 r.a)).setCell ⟨z, 2, none⟩ (.int .i64 r.b)).setCell ⟨z, 3, none⟩ (.int .i64 r.c)).setCell ⟨z, 4, none⟩ (.slice v1 n c1)).setCell ⟨y, 0, none⟩ (.int .i64 0)).setCell ⟨y, 1, none⟩ (.int .i64 0)).setCell ⟨y, 2, none⟩ (.int .i64 0)).setCell ⟨y, 3, none⟩ (.int .i64 0)).setCell ⟨y, 4, none⟩ (.int .i64 0)).setCell ⟨y, 5, none⟩ (.int .i64 0)).setCell ⟨y, 6, none⟩ (.int .i64 0)).setCell ⟨y, 7, none⟩ (.int .i64 0)).setCell ⟨y, 8, none⟩ (.int .i64 0)).setCell ⟨y, 9, none⟩ (.string ⟨#[]⟩)).setCell ⟨y, 10, none⟩ (.int .i64 0)).setCell ⟨y, 11, none⟩ (.int .i64 0)).setCell ⟨y, 12, none⟩ (.int .i64 0)) v1 n c1 W0.heap.size ((((((((((((((((((w3.setCell ⟨z, 0, none⟩ (.int .i64 r.id)).setCell ⟨z, 1, none⟩ (.int .i64 r.a)).setCell ⟨z, 2, none⟩ (.int .i64 r.b)).setCell ⟨z, 3, none⟩ (.int .i64 r.c)).setCell ⟨z, 4, none⟩ (.slice v1 n c1)).setCell ⟨y, 0, none⟩ (.int .i64 0)).setCell ⟨y, 1, none⟩ (.int .i64 0)).setCell ⟨y, 2, none⟩ (.int .i64 0)).setCell ⟨y, 3, none⟩ (.int .i64 0)).setCell ⟨y, 4, none⟩ (.int .i64 0)).setCell ⟨y, 5, none⟩ (.int .i64 0)).setCell ⟨y, 6, none⟩ (.int .i64 0)).setCell ⟨y, 7, none⟩ (.int .i64 0)).setCell ⟨y, 8, none⟩ (.int .i64 0)).setCell ⟨y, 9, none⟩ (.string ⟨#[]⟩)).setCell ⟨y, 10, none⟩ (.int .i64 0)).setCell ⟨y, 11, none⟩ (.int .i64 0)).setCell ⟨y, 12, none⟩ (.int .i64 0)).heap.size (ucell r.us) := mu_both mu9 hzq hyl _ _ _ _ _ M1.zeroU
     go_wp2_with fail
     clear a0 a1 a2 a3 a4 b0 b1 b2 b3 b4 ca0 ca1 ca2 ca3 ca4 ca5 ca6 ca7 ca8 ca9 ca10 ca11 ca12 fa0 fa1 fa2 fa3 fa4 fa5 fa6 fa7 fa8 fa9 fa10 fa11 fa12 zf yf
     obtain ⟨Wz, hWz⟩ : ∃ W, ((((((((((((((((((w3.setCell ⟨z, 0, none⟩ (.int .i64 r.id)).setCell ⟨z, 1, none⟩ (.int .i64 r.a)).setCell ⟨z, 2, none⟩ (.int .i64 r.b)).setCell ⟨z, 3, none⟩ (.int .i64 r.c)).setCell ⟨z, 4, none⟩ (.slice v1 n c1)).setCell ⟨y, 0, none⟩ (.int .i64 0)).setCell ⟨y, 1, none⟩ (.int .i64 0)).setCell ⟨y, 2, none⟩ (.int .i64 0)).setCell ⟨y, 3, none⟩ (.int .i64 0)).setCell ⟨y, 4, none⟩ (.int .i64 0)).setCell ⟨y, 5, none⟩ (.int .i64 0)).setCell ⟨y, 6, none⟩ (.int .i64 0)).setCell ⟨y, 7, none⟩ (.int .i64 0)).setCell ⟨y, 8, none⟩ (.int .i64 0)).setCell ⟨y, 9, none⟩ (.string ⟨#[]⟩)).setCell ⟨y, 10, none⟩ (.int .i64 0)).setCell ⟨y, 11, none⟩ (.int .i64 0)).setCell ⟨y, 12, none⟩ (.int .i64 0)) = W := ⟨_, rfl⟩
     rw [hWz] at zz zr BB hm ⊢
     clear hWz
     obtain ⟨r0, r1, r2, r3, r4⟩ := zr.cells
     obtain ⟨va0, va1, va2, va3, va4, va5, va6, va7, va8, va9, va10, va11, va12⟩ := uq_cells zz
     unfold M1.zeroU at va0 va1 va2 va3 va4 va5 va6 va7 va8 va9 va10 va11 va12
     refine bodyPost_ret (v := .tuple #[.agg #[.int .i64 r.id, .int .i64 r.a, .int .i64 r.b, .int .i64 r.c, .slice v1 n c1], .agg #[.int .i64 0, .int .i64 0, .int .i64 0, .int .i64 0, .int .i64 0, .int .i64 0, .int .i64 0, .int .i64 0, .int .i64 0, .string ByteArray.empty, .int .i64 0, .int .i64 0, .int .i64 0], .int .i64 5]) (by simp [results, Tryz.results49, go_sem, r0, r1, r2, r3, r4, va0, va1, va2, va3, va4, va5, va6, va7, va8, va9, va10, va11, va12]) rfl ?_
     exact ⟨⟨_, by rw [HC.out.1, HC.out.2.2]; rfl, by rw [HC.out.2.1]; exact ⟨v1, c1, by rw [hln.out], by rw [hln.out]; exact mu_low hm hs0⟩⟩, BB⟩
    | true =>
     obtain ⟨o5, ho5⟩ : ∃ o, Hid ((M1.tickP r.a r.b r.c now).ok = o) := ⟨_, rfl⟩
     obtain ⟨d0, d1, d2, d3, d4⟩ := P3.cells
     have pl := P3.lt
     go_wp2_with fail
     refine (ticked_spec r.a r.b r.c now _).mono ?_
     rw [ho5.out]
     obtain ⟨ta, hta⟩ : ∃ v, Hid ((M1.tickP r.a r.b r.c now).a = v) := ⟨_, rfl⟩
     obtain ⟨tb, htb⟩ : ∃ v, Hid ((M1.tickP r.a r.b r.c now).b = v) := ⟨_, rfl⟩
     obtain ⟨tc, htc⟩ : ∃ v, Hid ((M1.tickP r.a r.b r.c now).c = v) := ⟨_, rfl⟩
     rw [hta.out, htb.out, htc.out]
     rintro e w5 ⟨rfl, hb5⟩
     have B5 := B3.trans (hb5.mono B3.size)
     replace hsz : w1.heap.size ≤ w5.heap.size := Nat.le_trans hsz hb5.size
     clear d0 d1 d2 d3 d4 pl
     have hob5 := Q3.lt
     have P5 : RgAt w5 p r.id r.a r.b r.c av n cn := P3.below hb5
     have O5 : OpAt w5 o x := RowAt.below O3 hb5
     have Z5 : RgAt w5 z 0 0 0 0 none 0 0 := Z3.below hb5
     have Y5 : RowAt w5 y 13 (uq M1.zeroU) := RowAt.below Y3 hb5
     have M5 : MU w5 v1 n c1 W0.heap.size w1.heap.size (ucell r.us) := M3.below hb5
     have Q5 : RgAt w5 ob r.id r.a r.b r.c v1 n c1 := Q3.below hb5
     clear P3 O3 Z3 Y3 M3 Q3
     have hb6 : Below w5.heap.size w5 (w5.alloc (.cells #[.int .i64 ta, .int .i64 tb, .int .i64 tc] 25)) := (Below.refl _ _).alloc (Nat.le_refl _) _
     have K6 := st_new w5 ta tb tc 25
     go_upto_region 8 with fail
     obtain ⟨W6, hW6⟩ : ∃ W, w5.alloc (.cells #[.int .i64 ta, .int .i64 tb, .int .i64 tc] 25) = W := ⟨_, rfl⟩
     rw [hW6] at hb6 K6 ⊢
     clear hW6
     have B6 := B5.trans (hb6.mono B5.size)
     replace hsz : w1.heap.size ≤ W6.heap.size := Nat.le_trans hsz hb6.size
     have hs5 := hb5.size
     obtain ⟨kb, hkb⟩ : ∃ b, Hid (w5.heap.size = b) := ⟨_, rfl⟩
     have hobkb : ¬ ob = kb := by have := hkb.out; omega
     rw [hkb.out] at K6 ⊢
     have P6 : RgAt W6 p r.id r.a r.b r.c av n cn := P5.below hb6
     have O6 : OpAt W6 o x := RowAt.below O5 hb6
     have Z6 : RgAt W6 z 0 0 0 0 none 0 0 := Z5.below hb6
     have Y6 : RowAt W6 y 13 (uq M1.zeroU) := RowAt.below Y5 hb6
     have M6 : MU W6 v1 n c1 W0.heap.size w1.heap.size (ucell r.us) := M5.below hb6
     have Q6 : RgAt W6 ob r.id r.a r.b r.c v1 n c1 := Q5.below hb6
     clear P5 O5 Z5 Y5 M5 Q5
     cases o5 with
     | false =>
      have HC : Hid (M1.isC r x now = 4 ∧ M1.isR r x now = r ∧ M1.isU r x now = M1.zeroU) := M1.is_4 HO.out HF.out ho4.out ho5.out
      obtain ⟨q0, q1, q2, q3, q4⟩ := Q6.cells
      have ql := Q6.lt
      have mu9 := mu_high M6 hsz
      obtain ⟨a0, a1, a2, a3, a4⟩ := Z6.cells
      obtain ⟨b0, b1, b2, b3, b4⟩ := Z6.frees
      have zl9 := Z6.lt
      obtain ⟨ca0, ca1, ca2, ca3, ca4, ca5, ca6, ca7, ca8, ca9, ca10, ca11, ca12⟩ := uq_cells Y6
      obtain ⟨fa0, fa1, fa2, fa3, fa4, fa5, fa6, fa7, fa8, fa9, fa10, fa11, fa12⟩ := uq_free Y6
      have yl9 := Y6.lt
      have zf : RgAt (((((W6.setCell ⟨z, 0, none⟩ (.int .i64 r.id)).setCell ⟨z, 1, none⟩ (.int .i64 r.a)).setCell ⟨z, 2, none⟩ (.int .i64 r.b)).setCell ⟨z, 3, none⟩ (.int .i64 r.c)).setCell ⟨z, 4, none⟩ (.slice v1 n c1)) z r.id r.a r.b r.c v1 n c1 := Z6.put r.id r.a r.b r.c v1 n c1
      have yf : RowAt (((((W6.setCell ⟨z, 0, none⟩ (.int .i64 r.id)).setCell ⟨z, 1, none⟩ (.int .i64 r.a)).setCell ⟨z, 2, none⟩ (.int .i64 r.b)).setCell ⟨z, 3, none⟩ (.int .i64 r.c)).setCell ⟨z, 4, none⟩ (.slice v1 n c1)) y 13 (uq M1.zeroU) := far5 Y6 hzy _ _ _ _ _
      have zz : RowAt ((((((((((((((((((W6.setCell ⟨z, 0, none⟩ (.int .i64 r.id)).setCell ⟨z, 1, none⟩ (.int .i64 r.a)).setCell ⟨z, 2, none⟩ (.int .i64 r.b)).setCell ⟨z, 3, none⟩ (.int .i64 r.c)).setCell ⟨z, 4, none⟩ (.slice v1 n c1)).setCell ⟨y, 0, none⟩ (.int .i64 0)).setCell ⟨y, 1, none⟩ (.int .i64 0)).setCell ⟨y, 2, none⟩ (.int .i64 0)).setCell ⟨y, 3, none⟩ (.int .i64 0)).setCell ⟨y, 4, none⟩ (.int .i64 0)).setCell ⟨y, 5, none⟩ (.int .i64 0)).setCell ⟨y, 6, none⟩ (.int .i64 0)).setCell ⟨y, 7, none⟩ (.int .i64 0)).setCell ⟨y, 8, none⟩ (.int .i64 0)).setCell ⟨y, 9, none⟩ (.string ⟨#[]⟩)).setCell ⟨y, 10, none⟩ (.int .i64 0)).setCell ⟨y, 11, none⟩ (.int .i64 0)).setCell ⟨y, 12, none⟩ (.int .i64 0)) y 13 (uq M1.zeroU) := uq_put yf M1.zeroU
      have zr : RgAt ((((((((((((((((((W6.setCell ⟨z, 0, none⟩ (.int .i64 r.id)).setCell ⟨z, 1, none⟩ (.int .i64 r.a)).setCell ⟨z, 2, none⟩ (.int .i64 r.b)).setCell ⟨z, 3, none⟩ (.int .i64 r.c)).setCell ⟨z, 4, none⟩ (.slice v1 n c1)).setCell ⟨y, 0, none⟩ (.int .i64 0)).setCell ⟨y, 1, none⟩ (.int .i64 0)).setCell ⟨y, 2, none⟩ (.int .i64 0)).setCell ⟨y, 3, none⟩ (.int .i64 0)).setCell ⟨y, 4, none⟩ (.int .i64 0)).setCell ⟨y, 5, none⟩ (.int .i64 0)).setCell ⟨y, 6, none⟩ (.int .i64 0)).setCell ⟨y, 7, none⟩ (.int .i64 0)).setCell ⟨y, 8, none⟩ (.int .i64 0)).setCell ⟨y, 9, none⟩ (.string ⟨#[]⟩)).setCell ⟨y, 10, none⟩ (.int .i64 0)).setCell ⟨y, 11, none⟩ (.int .i64 0)).setCell ⟨y, 12, none⟩ (.int .i64 0)) z r.id r.a r.b r.c v1 n c1 := far13 zf hyz M1.zeroU
      have BB : Below w.heap.size w ((((((((((((((((((W6.setCell ⟨z, 0, none⟩ (.int .i64 r.id)).setCell ⟨z, 1, none⟩ (.int .i64 r.a)).setCell ⟨z, 2, none⟩ (.int .i64 r.b)).setCell ⟨z, 3, none⟩ (.int .i64 r.c)).setCell ⟨z, 4, none⟩ (.slice v1 n c1)).setCell ⟨y, 0, none⟩ (.int .i64 0)).setCell ⟨y, 1, none⟩ (.int .i64 0)).setCell ⟨y, 2, none⟩ (.int .i64 0)).setCell ⟨y, 3, none⟩ (.int .i64 0)).setCell ⟨y, 4, none⟩ (.int .i64 0)).setCell ⟨y, 5, none⟩ (.int .i64 0)).setCell ⟨y, 6, none⟩ (.int .i64 0)).setCell ⟨y, 7, none⟩ (.int .i64 0)).setCell ⟨y, 8, none⟩ (.int .i64 0)).setCell ⟨y, 9, none⟩ (.string ⟨#[]⟩)).setCell ⟨y, 10, none⟩ (.int .i64 0)).setCell ⟨y, 11, none⟩ (.int .i64 0)).setCell ⟨y, 12, none⟩ (.int .i64 0)) := bel_put (bel_put5 B6 hzw _ _ _ _ _) hyw M1.zeroU
      have hm : MU ((((((((((((((((((W6.setCell ⟨z, 0, none⟩ (.int .i64 r.id)).setCell ⟨z, 1, none⟩ (.int .i64 r.a)).setCell ⟨z, 2, none⟩ (.int .i64 r.b)).setCell ⟨z, 3, none⟩ (.int .i64 r.c)).setCell ⟨z, 4, none⟩ (.slice v1 n c1)).setCell ⟨y, 0, none⟩ (.int .i64 0)).setCell ⟨y, 1, none⟩ (.int .i64 0)).setCell ⟨y, 2, none⟩ (.int .i64 0)).setCell ⟨y, 3, none⟩ (.int .i64 0)).setCell ⟨y, 4, none⟩ (.int .i64 0)).setCell ⟨y, 5, none⟩ (.int .i64 0)).setCell ⟨y, 6, none⟩ (.int .i64 0)).setCell ⟨y, 7, none⟩ (.int .i64 0)).setCell ⟨y, 8, none⟩ (.int .i64 0)).setCell ⟨y, 9, none⟩ (.string ⟨#[]⟩)).setCell ⟨y, 10, none⟩ (.int .i64 0)).setCell ⟨y, 11, none⟩ (.int .i64 0)).setCell ⟨y, 12, none⟩ (.int .i64 0)) v1 n c1 W0.heap.size ((((((((((((((((((W6.setCell ⟨z, 0, none⟩ (.int .i64 r.id)).setCell ⟨z, 1, none⟩ (.int .i64 r.a)).setCell ⟨z, 2, none⟩ (.int .i64 r.b)).setCell ⟨z, 3, none⟩ (.int .i64 r.c)).setCell ⟨z, 4, none⟩ (.slice v1 n c1)).setCell ⟨y, 0, none⟩ (.int .i64 0)).setCell ⟨y, 1, none⟩ (.int .i64 0)).setCell ⟨y, 2, none⟩ (.int .i64 0)).setCell ⟨y, 3, none⟩ (.int .i64 0)).setCell ⟨y, 4, none⟩ (.int .i64 0)).setCell ⟨y, 5, none⟩ (.int .i64 0)).setCell ⟨y, 6, none⟩ (.int .i64 0)).setCell ⟨y, 7, none⟩ (.int .i64 0)).setCell ⟨y, 8, none⟩ (.int .i64 0)).setCell ⟨y, 9, none⟩ (.string ⟨#[]⟩)).setCell ⟨y, 10, none⟩ (.int .i64 0)).setCell ⟨y, 11, none⟩ (.int .i64 0)).setCell ⟨y, 12, none⟩ (.int .i64 0)).heap.size (ucell r.us) := mu_both mu9 hzq hyl _ _ _ _ _ M1.zeroU
      go_wp2_with fail
      clear a0 a1 a2 a3 a4 b0 b1 b2 b3 b4 ca0 ca1 ca2 ca3 ca4 ca5 ca6 ca7 ca8 ca9 ca10 ca11 ca12 fa0 fa1 fa2 fa3 fa4 fa5 fa6 fa7 fa8 fa9 fa10 fa11 fa12 zf yf
      obtain ⟨Wz, hWz⟩ : ∃ W, ((((((((((((((((((W6.setCell ⟨z, 0, none⟩ (.int .i64 r.id)).setCell ⟨z, 1, none⟩ (.int .i64 r.a)).setCell ⟨z, 2, none⟩ (.int .i64 r.b)).setCell ⟨z, 3, none⟩ (.int .i64 r.c)).setCell ⟨z, 4, none⟩ (.slice v1 n c1)).setCell ⟨y, 0, none⟩ (.int .i64 0)).setCell ⟨y, 1, none⟩ (.int .i64 0)).setCell ⟨y, 2, none⟩ (.int .i64 0)).setCell ⟨y, 3, none⟩ (.int .i64 0)).setCell ⟨y, 4, none⟩ (.int .i64 0)).setCell ⟨y, 5, none⟩ (.int .i64 0)).setCell ⟨y, 6, none⟩ (.int .i64 0)).setCell ⟨y, 7, none⟩ (.int .i64 0)).setCell ⟨y, 8, none⟩ (.int .i64 0)).setCell ⟨y, 9, none⟩ (.string ⟨#[]⟩)).setCell ⟨y, 10, none⟩ (.int .i64 0)).setCell ⟨y, 11, none⟩ (.int .i64 0)).setCell ⟨y, 12, none⟩ (.int .i64 0)) = W := ⟨_, rfl⟩
      rw [hWz] at zz zr BB hm ⊢
      clear hWz
      obtain ⟨r0, r1, r2, r3, r4⟩ := zr.cells
      obtain ⟨va0, va1, va2, va3, va4, va5, va6, va7, va8, va9, va10, va11, va12⟩ := uq_cells zz
      unfold M1.zeroU at va0 va1 va2 va3 va4 va5 va6 va7 va8 va9 va10 va11 va12
      refine bodyPost_ret (v := .tuple #[.agg #[.int .i64 r.id, .int .i64 r.a, .int .i64 r.b, .int .i64 r.c, .slice v1 n c1], .agg #[.int .i64 0, .int .i64 0, .int .i64 0, .int .i64 0, .int .i64 0, .int .i64 0, .int .i64 0, .int .i64 0, .int .i64 0, .string ByteArray.empty, .int .i64 0, .int .i64 0, .int .i64 0], .int .i64 4]) (by simp [results, Tryz.results49, go_sem, r0, r1, r2, r3, r4, va0, va1, va2, va3, va4, va5, va6, va7, va8, va9, va10, va11, va12]) rfl ?_
      exact ⟨⟨_, by rw [HC.out.1, HC.out.2.2]; rfl, by rw [HC.out.2.1]; exact ⟨v1, c1, by rw [hln.out], by rw [hln.out]; exact mu_low hm hs0⟩⟩, BB⟩
     | true =>
      obtain ⟨dn, hdn⟩ : ∃ d, Hid (M1.lastN r.us n r.id = d) := ⟨_, rfl⟩
      have hfm : Hid (M1.fm (M1.l3v r.us) r.id = dn) := (by rw [M1.last_fm HO.out, hln.out]; exact hdn.out : _ = _)
      have hbd : 0 ≤ dn ∧ dn ≤ 1000000 := by rw [← hdn.out]; exact M1.lastN_bd (M1.setOk_all hset.out) r.id n (by rw [← hU.hlen]; exact Nat.le_refl _)
      have i0 := hbd.1
      have i1 := hbd.2
      obtain ⟨d0, d1, d2, d3, d4⟩ := P6.cells
      have pl := P6.lt
      obtain ⟨e0, e1, e2, e3, e4, e5, e6⟩ := OpAt.cells (x := x) O6
      have ol := O6.lt
      obtain ⟨k0, k1, k2⟩ := StAt.cells K6
      have kl := K6.lt
      go_upto_region 10 with fail
      go_cut [13] (fun v wc => ∃ ub, v = .pointer (some ⟨ub, 0, none⟩) ∧ RowAt wc ub 13 (uq (nu0 r.id (dn + 1) ta tb tc x.t)) ∧ Below W6.heap.size W6 wc ∧ W6.heap.size ≤ ub)
      case first =>
       refine wp_region_held_drew (S := fun w' => Kp W6 w') (by kernel_rfl) ?_ (fun hHeld => ?_)
       ·exact kp_zero _
       refine tZ (i:=0) (v:=?_) rfl (.inl ⟨by rfl, ?_⟩) hHeld ?_
       rotate_left
       ·(intro w hSw; (try dsimp only at hSw); go_simp; try (with_reducible rfl))
       (try simp only [Act.put, zZ])
       refine tZ (i:=1) (v:=?_) rfl (.inl ⟨by rfl, ?_⟩) hHeld ?_
       rotate_left
       ·(intro w hSw; (try dsimp only at hSw); go_simp; try (with_reducible rfl))
       (try simp only [Act.put, zZ])
       refine tZ (i:=2) (v:=?_) rfl (.inl ⟨by rfl, ?_⟩) hHeld ?_
       rotate_left
       ·(intro w hSw; (try dsimp only at hSw); go_simp; try (with_reducible rfl))
       (try simp only [Act.put, zZ])
       refine tZ (i:=3) (v:=?_) rfl (.inl ⟨by rfl, ?_⟩) hHeld ?_
       rotate_left
       ·(intro w hSw; (try dsimp only at hSw); go_simp; try (with_reducible rfl))
       (try simp only [Act.put, zZ])
       refine tZ (i:=5) (v:=?_) rfl (.inl ⟨by rfl, ?_⟩) hHeld ?_
       rotate_left
       ·(intro w hSw; (try dsimp only at hSw); go_simp; try (with_reducible rfl))
       (try simp only [Act.put, zZ])
       refine tZ (i:=6) (v:=?_) rfl (.inl ⟨by rfl, ?_⟩) hHeld ?_
       rotate_left
       ·(intro w hSw; (try dsimp only at hSw); go_simp; try (with_reducible rfl))
       (try simp only [Act.put, zZ])
       refine tZ (i:=10) (v:=?_) rfl (.inl ⟨by rfl, ?_⟩) hHeld ?_
       rotate_left
       ·(intro w hSw; (try dsimp only at hSw); go_simp; try (with_reducible rfl))
       (try simp only [Act.put, zZ])
       refine tZ (i:=11) (v:=?_) rfl (.inl ⟨by rfl, ?_⟩) hHeld ?_
       rotate_left
       ·(intro w hSw; (try dsimp only at hSw); go_simp; try (with_reducible rfl))
       (try simp only [Act.put, zZ])
       refine tZ (i:=12) (v:=?_) rfl (.inl ⟨by rfl, ?_⟩) hHeld ?_
       rotate_left
       ·(intro w hSw; (try dsimp only at hSw); go_simp; try (with_reducible rfl))
       (try simp only [Act.put, zZ])
       refine wpAnyH_ready (rs := [4, 14]) (by kernel_rfl) (by simp) ?_
       refine AllReadyH.cons (o := _) rfl (fun K hK => ?_) (AllReadyH.cons (o := _) rfl (fun K hK => ?_) AllReadyH.nil)
       ·go_simp
        refine (l3Vector_gen _ _ _ r.us _ (hU.below (B6.trans ((Below.refl W6.heap.size W6).drew.mono B6.size))) (by omega)).mono ?_
        rintro e w7 ⟨⟨v5, rfl, own5⟩, hb7⟩
        obtain ⟨dv, dc, rfl, mv5⟩ := MV.of_owns own5
        go_wp2_with fail
        have B7 : Below W6.heap.size W6 w7 := (Below.refl _ W6).drew.trans hb7
        refine hK.out _ _ (kp_of B7) (fun hHeld2 => ?_)
        clear hK K hHeld
        have hHeld := hHeld2
        clear hHeld2
        (try simp only [Act.put, zZ])
        refine wpAnyH_ready (rs := [7, 14]) (by kernel_rfl) (by simp) ?_
        refine AllReadyH.cons (o := _) rfl (fun K hK => ?_) (AllReadyH.cons (o := _) rfl (fun K hK => ?_) AllReadyH.nil)
        ·go_simp
         refine (l1Of_gen _ _ _ _ r.id _ (mv5.vec rfl)).mono ?_
         rw [hfm.out]
         rintro e w8 ⟨rfl, hw8⟩
         obtain rfl := hw8.symm
         go_wp2_with fail
         refine hK.out _ _ (hHeld) (fun hHeld2 => ?_)
         clear hK K hHeld
         have hHeld := hHeld2
         clear hHeld2
         (try simp only [Act.put, zZ])
         refine tZ (i:=8) (v:=.int .i64 (dn + 1)) rfl (.inl ⟨by rfl, ?_⟩) hHeld ?_
         ·(intro w hSw; (try dsimp only at hSw); go_simp; (try exact IntWalk.i64_in _ (by omega)))
         (try simp only [Act.put, zZ])
         refine tZ (i:=9) (v:=?_) rfl (.inl ⟨by rfl, ?_⟩) hHeld ?_
         rotate_left
         ·(intro w hSw; (try dsimp only at hSw); go_simp; try (with_reducible rfl))
         (try simp only [Act.put, zZ])
         refine tZ (i:=13) (v:=?_) rfl (.inl ⟨by rfl, ?_⟩) hHeld ?_
         rotate_left
         ·(intro w hSw; (try dsimp only at hSw); go_simp; try (with_reducible rfl))
         (try simp only [Act.put, zZ])
         refine wpAnyH_ready (rs := [14]) (by kernel_rfl) (by simp) ?_
         refine AllReadyH.cons (o := _) rfl (fun K hK => ?_) AllReadyH.nil
         go_simp
         skip
         refine hK.out _ _ ?_ (fun hHeld2 => ?_)
         ·exact kp_alloc hHeld _
         clear hK K hHeld
         have hHeld := hHeld2
         clear hHeld2
         (try simp only [Act.put, zZ])
         refine wpAnyH_ready (rs := [15]) (by kernel_rfl) (by simp) ?_
         refine AllReadyH.cons (o := _) rfl (fun K hK => ?_) AllReadyH.nil
         go_simp
         skip
         refine hK.out _ _ ?_ (fun hHeld2 => ?_)
         ·exact kp_of (B7.alloc B7.size _)
         clear hK K hHeld
         have hHeld := hHeld2
         clear hHeld2
         (try simp only [Act.put, zZ])
         refine wpAnyH_done (by kernel_rfl) ?_ _
         have hN : RowAt _ w7.heap.size 13 (uq (nu0 r.id (dn + 1) ta tb tc x.t)) := uq_new w7 (nu0 r.id (dn + 1) ta tb tc x.t) 38
         go_wp2_with fail
         go_meet
         exact ⟨w7.heap.size, rfl, hN, B7.alloc B7.size _, B7.size⟩
        ·go_simp
         refine hK.out _ _ (kp_of (B7.alloc B7.size _)) (fun hHeld2 => ?_)
         clear hK K hHeld
         have hHeld := hHeld2
         clear hHeld2
         (try simp only [Act.put, zZ])
         have zN : RowAt (w7.alloc (.cells #[.int .i64 0, .int .i64 0, .int .i64 0, .int .i64 0, .int .i64 0, .int .i64 0, .int .i64 0, .int .i64 0, .int .i64 0, .string ⟨#[]⟩, .int .i64 0, .int .i64 0, .int .i64 0] 38)) w7.heap.size 13 (uq M1.zeroU) := uq_new w7 M1.zeroU 38
         have b8 : Below w7.heap.size w7 (w7.alloc (.cells #[.int .i64 0, .int .i64 0, .int .i64 0, .int .i64 0, .int .i64 0, .int .i64 0, .int .i64 0, .int .i64 0, .int .i64 0, .string ⟨#[]⟩, .int .i64 0, .int .i64 0, .int .i64 0] 38)) := (Below.refl _ w7).alloc (Nat.le_refl _) _
         obtain ⟨W8, hW8⟩ : ∃ W, (w7.alloc (.cells #[.int .i64 0, .int .i64 0, .int .i64 0, .int .i64 0, .int .i64 0, .int .i64 0, .int .i64 0, .int .i64 0, .int .i64 0, .string ⟨#[]⟩, .int .i64 0, .int .i64 0, .int .i64 0] 38)) = W := ⟨_, rfl⟩
         rw [hW8] at hHeld zN b8 ⊢
         clear hW8
         have B8 := B7.trans (b8.mono B7.size)
         have mv8 := mv5.below b8
         obtain ⟨q, hq⟩ : ∃ q, Hid (w7.heap.size = q) := ⟨_, rfl⟩
         have hql : W6.heap.size ≤ q := by rw [← hq.out]; exact B7.size
         rw [hq.out] at zN
         (try rw [hq.out])
         refine wpAnyH_ready (rs := [7]) (by kernel_rfl) (by simp) ?_
         refine AllReadyH.cons (o := _) rfl (fun K hK => ?_) AllReadyH.nil
         go_simp
         (refine (l1Of_gen _ _ _ _ r.id _ (mv8.vec rfl)).mono ?_; rw [hfm.out]; rintro e w9 ⟨rfl, hw9⟩; obtain rfl := hw9.symm; go_wp2_with fail)
         refine hK.out _ _ ?_ (fun hHeld2 => ?_)
         ·exact hHeld
         clear hK K hHeld
         have hHeld := hHeld2
         clear hHeld2
         (try simp only [Act.put, zZ])
         refine tZ (i:=8) (v:=.int .i64 (dn + 1)) rfl (.inl ⟨by rfl, ?_⟩) hHeld ?_
         ·(intro w hSw; (try dsimp only at hSw); go_simp; (try exact IntWalk.i64_in _ (by omega)))
         (try simp only [Act.put, zZ])
         refine tZ (i:=9) (v:=?_) rfl (.inl ⟨by rfl, ?_⟩) hHeld ?_
         rotate_left
         ·(intro w hSw; (try dsimp only at hSw); go_simp; try (with_reducible rfl))
         (try simp only [Act.put, zZ])
         refine tZ (i:=13) (v:=?_) rfl (.inl ⟨by rfl, ?_⟩) hHeld ?_
         rotate_left
         ·(intro w hSw; (try dsimp only at hSw); go_simp; try (with_reducible rfl))
         (try simp only [Act.put, zZ])
         obtain ⟨ca0, ca1, ca2, ca3, ca4, ca5, ca6, ca7, ca8, ca9, ca10, ca11, ca12⟩ := uq_cells zN
         obtain ⟨fa0, fa1, fa2, fa3, fa4, fa5, fa6, fa7, fa8, fa9, fa10, fa11, fa12⟩ := uq_free zN
         have zl3 := zN.lt
         refine wpAnyH_ready (rs := [15]) (by kernel_rfl) (by simp) ?_
         refine AllReadyH.cons (o := _) rfl (fun K hK => ?_) AllReadyH.nil
         go_simp
         skip
         refine hK.out _ _ ?_ (fun hHeld2 => ?_)
         ·exact kp_of (bel_put B8 hql (nu0 r.id (dn + 1) ta tb tc x.t))
         clear hK K hHeld
         have hHeld := hHeld2
         clear hHeld2
         (try simp only [Act.put, zZ])
         refine wpAnyH_done (by kernel_rfl) ?_ _
         have hN := uq_put zN (nu0 r.id (dn + 1) ta tb tc x.t)
         have B4 := bel_put B8 hql (nu0 r.id (dn + 1) ta tb tc x.t)
         clear ca0 ca1 ca2 ca3 ca4 ca5 ca6 ca7 ca8 ca9 ca10 ca11 ca12 fa0 fa1 fa2 fa3 fa4 fa5 fa6 fa7 fa8 fa9 fa10 fa11 fa12
         go_wp2_with fail
         go_meet
         exact ⟨q, rfl, hN, B4, hql⟩
       ·go_simp
        refine hK.out _ _ (kp_alloc hHeld _) (fun hHeld2 => ?_)
        clear hK K hHeld
        have hHeld := hHeld2
        clear hHeld2
        (try simp only [Act.put, zZ])
        have zN : RowAt (W6.alloc (.cells #[.int .i64 0, .int .i64 0, .int .i64 0, .int .i64 0, .int .i64 0, .int .i64 0, .int .i64 0, .int .i64 0, .int .i64 0, .string ⟨#[]⟩, .int .i64 0, .int .i64 0, .int .i64 0] 38)).drew W6.heap.size 13 (uq M1.zeroU) := (uq_new W6 M1.zeroU 38).drew
        have B7 : Below W6.heap.size W6 (W6.alloc (.cells #[.int .i64 0, .int .i64 0, .int .i64 0, .int .i64 0, .int .i64 0, .int .i64 0, .int .i64 0, .int .i64 0, .int .i64 0, .string ⟨#[]⟩, .int .i64 0, .int .i64 0, .int .i64 0] 38)).drew := ((Below.refl _ W6).alloc (Nat.le_refl _) _).drew
        obtain ⟨W7, hW7⟩ : ∃ W, (W6.alloc (.cells #[.int .i64 0, .int .i64 0, .int .i64 0, .int .i64 0, .int .i64 0, .int .i64 0, .int .i64 0, .int .i64 0, .int .i64 0, .string ⟨#[]⟩, .int .i64 0, .int .i64 0, .int .i64 0] 38)).drew = W := ⟨_, rfl⟩
        rw [hW7] at hHeld zN B7 ⊢
        clear hW7
        obtain ⟨q, hq⟩ : ∃ q, Hid (W6.heap.size = q) := ⟨_, rfl⟩
        have hql : W6.heap.size ≤ q := by rw [hq.out]; exact Nat.le_refl _
        rw [hq.out] at zN
        (try rw [show W6.drew.heap.size = q from hq.out])
        (try rw [hq.out])
        refine wpAnyH_ready (rs := [4]) (by kernel_rfl) (by simp) ?_
        refine AllReadyH.cons (o := _) rfl (fun K hK => ?_) AllReadyH.nil
        go_simp
        (refine (l3Vector_gen _ _ _ r.us _ (hU.below (B6.trans (B7.mono B6.size))) (by omega)).mono ?_; rintro e w8 ⟨⟨v5, rfl, own5⟩, hb8⟩; obtain ⟨dv, dc, rfl, mv5⟩ := MV.of_owns own5; go_wp2_with fail)
        refine hK.out _ _ ?_ (fun hHeld2 => ?_)
        ·exact kp_of (B7.trans (hb8.mono B7.size))
        clear hK K hHeld
        have hHeld := hHeld2
        clear hHeld2
        (try simp only [Act.put, zZ])
        have B8 := B7.trans (hb8.mono B7.size)
        have z8 : RowAt w8 q 13 (uq M1.zeroU) := RowAt.below zN hb8
        refine wpAnyH_ready (rs := [7]) (by kernel_rfl) (by simp) ?_
        refine AllReadyH.cons (o := _) rfl (fun K hK => ?_) AllReadyH.nil
        go_simp
        (refine (l1Of_gen _ _ _ _ r.id _ (mv5.vec rfl)).mono ?_; rw [hfm.out]; rintro e w9 ⟨rfl, hw9⟩; obtain rfl := hw9.symm; go_wp2_with fail)
        refine hK.out _ _ ?_ (fun hHeld2 => ?_)
        ·exact hHeld
        clear hK K hHeld
        have hHeld := hHeld2
        clear hHeld2
        (try simp only [Act.put, zZ])
        refine tZ (i:=8) (v:=.int .i64 (dn + 1)) rfl (.inl ⟨by rfl, ?_⟩) hHeld ?_
        ·(intro w hSw; (try dsimp only at hSw); go_simp; (try exact IntWalk.i64_in _ (by omega)))
        (try simp only [Act.put, zZ])
        refine tZ (i:=9) (v:=?_) rfl (.inl ⟨by rfl, ?_⟩) hHeld ?_
        rotate_left
        ·(intro w hSw; (try dsimp only at hSw); go_simp; try (with_reducible rfl))
        (try simp only [Act.put, zZ])
        refine tZ (i:=13) (v:=?_) rfl (.inl ⟨by rfl, ?_⟩) hHeld ?_
        rotate_left
        ·(intro w hSw; (try dsimp only at hSw); go_simp; try (with_reducible rfl))
        (try simp only [Act.put, zZ])
        obtain ⟨ca0, ca1, ca2, ca3, ca4, ca5, ca6, ca7, ca8, ca9, ca10, ca11, ca12⟩ := uq_cells z8
        obtain ⟨fa0, fa1, fa2, fa3, fa4, fa5, fa6, fa7, fa8, fa9, fa10, fa11, fa12⟩ := uq_free z8
        have zl3 := z8.lt
        refine wpAnyH_ready (rs := [15]) (by kernel_rfl) (by simp) ?_
        refine AllReadyH.cons (o := _) rfl (fun K hK => ?_) AllReadyH.nil
        go_simp
        skip
        refine hK.out _ _ ?_ (fun hHeld2 => ?_)
        ·exact kp_of (bel_put B8 hql (nu0 r.id (dn + 1) ta tb tc x.t))
        clear hK K hHeld
        have hHeld := hHeld2
        clear hHeld2
        (try simp only [Act.put, zZ])
        refine wpAnyH_done (by kernel_rfl) ?_ _
        have hN := uq_put z8 (nu0 r.id (dn + 1) ta tb tc x.t)
        have B4 := bel_put B8 hql (nu0 r.id (dn + 1) ta tb tc x.t)
        clear ca0 ca1 ca2 ca3 ca4 ca5 ca6 ca7 ca8 ca9 ca10 ca11 ca12 fa0 fa1 fa2 fa3 fa4 fa5 fa6 fa7 fa8 fa9 fa10 fa11 fa12
        go_wp2_with fail
        go_meet
        exact ⟨q, rfl, hN, B4, hql⟩
      case rest =>
       obtain ⟨ub, rfl, U7, hb7, hub⟩ := hcut
       obtain ⟨w7, hw7⟩ : ∃ v, v = wc := ⟨_, rfl⟩
       rw [← hw7] at U7 hb7 ⊢
       clear hw7
       clear d0 d1 d2 d3 d4 pl e0 e1 e2 e3 e4 e5 e6 ol k0 k1 k2 kl
       have h6P := P6.lt
       have h6O := O6.lt
       have h6Z := Z6.lt
       have h6Y := Y6.lt
       have h6Q := Q6.lt
       have h6K := K6.lt
       have hsz6 := hsz
       have B7 := B6.trans (hb7.mono B6.size)
       replace hsz : w1.heap.size ≤ w7.heap.size := Nat.le_trans hsz hb7.size
       have hs6 := hb6.size
       have hk6 := K6.lt
       have hb6s := B6.size
       have hubw : w.heap.size ≤ ub := by omega
       have P7 : RgAt w7 p r.id r.a r.b r.c av n cn := P6.below hb7
       have O7 : OpAt w7 o x := RowAt.below O6 hb7
       have Z7 : RgAt w7 z 0 0 0 0 none 0 0 := Z6.below hb7
       have Y7 : RowAt w7 y 13 (uq M1.zeroU) := RowAt.below Y6 hb7
       have M7 : MU w7 v1 n c1 W0.heap.size w1.heap.size (ucell r.us) := M6.below hb7
       have Q7 : RgAt w7 ob r.id r.a r.b r.c v1 n c1 := Q6.below hb7
       have K7 : StAt w7 kb ta tb tc := K6.below hb7
       clear P6 O6 Z6 Y6 M6 Q6 K6
       have hubz : ¬ ub = z := by omega
       have huby : ¬ ub = y := by omega
       have hubp : ¬ ub = p := by omega
       have hubo : ¬ ub = o := by omega
       have hubob : ¬ ub = ob := by omega
       have hubkb : ¬ ub = kb := by omega
       have hubM : w1.heap.size ≤ ub := by omega
       obtain ⟨u, hu⟩ : ∃ u, Hid (M1.nuU r x now = u) := ⟨_, rfl⟩
       have HT : Hid (M1.tk r now = ⟨ta, tb, tc, true⟩) := (by show M1.tickP r.a r.b r.c now = _; rw [← hta.out, ← htb.out, ← htc.out, ← ho5.out] : _ = _)
       have hdn2 : Hid (M1.lastN r.us r.us.length r.id = dn) := (by rw [hln.out]; exact hdn.out : _ = _)
       have hMub : ∀ q, v1 = some q → ¬ q.block = ub := fun q hq => by
        rcases M7.2.2 with ⟨_, e⟩ | ⟨g, e, h1, h2, _⟩
        ·rw [e] at hq; cases hq
        ·rw [e] at hq; cases hq; show ¬ g = ub; omega
       have hMob : ∀ q, v1 = some q → ¬ q.block = ob := fun q hq => by
        have := hob.out
        rcases M7.2.2 with ⟨_, e⟩ | ⟨g, e, h1, h2, _⟩
        ·rw [e] at hq; cases hq
        ·rw [e] at hq; cases hq; show ¬ g = ob; omega
       obtain ⟨e0, e1, e2, e3, e4, e5, e6⟩ := OpAt.cells (x := x) O7
       have ol := O7.lt
       obtain ⟨ca0, ca1, ca2, ca3, ca4, ca5, ca6, ca7, ca8, ca9, ca10, ca11, ca12⟩ := uq_cells U7
       simp only [nu0] at ca0 ca1 ca2 ca3 ca4 ca5 ca6 ca7 ca8 ca9 ca10 ca11 ca12
       obtain ⟨fa0, fa1, fa2, fa3, fa4, fa5, fa6, fa7, fa8, fa9, fa10, fa11, fa12⟩ := uq_free U7
       have ul := U7.lt
       go_upto_block 0 with fail
       go_cut [] (fun wc => RgAt wc p r.id r.a r.b r.c av n cn ∧ RgAt wc z 0 0 0 0 none 0 0 ∧ RowAt wc y 13 (uq M1.zeroU) ∧ RgAt wc ob r.id r.a r.b r.c v1 n c1 ∧ StAt wc kb ta tb tc ∧ RowAt wc ub 13 (uq u) ∧ MU wc v1 n c1 W0.heap.size w1.heap.size (ucell r.us) ∧ Below w.heap.size w wc ∧ w1.heap.size ≤ wc.heap.size)
       case first =>
        by_cases k1 : x.k = 1
        ·have q1 : (x.k == 1) = true := by simp [k1]
         have HU : Hid ((⟨r.id, dn + 1, ta, tb, tc, 1, x.t, x.id, x.pa, x.s, x.st, x.en, 0⟩ : M1.Upd) = u) := (by rw [← hu.out, M1.nuU_1 k1, HT.out, hdn2.out] : _ = _)
         go_wp2_with fail
         go_meet
         have sz : ∀ (w : World) (p : Addr) (v : Value), (w.setCell p v).heap.size = w.heap.size := fun _ _ _ => by simp [World.setCell]
         refine ⟨(far1 (far1 (far1 (far1 (far1 (far1 P7 hubp _) hubp _) hubp _) hubp _) hubp _) hubp _), (far1 (far1 (far1 (far1 (far1 (far1 Z7 hubz _) hubz _) hubz _) hubz _) hubz _) hubz _), (far1 (far1 (far1 (far1 (far1 (far1 Y7 huby _) huby _) huby _) huby _) huby _) huby _), (far1 (far1 (far1 (far1 (far1 (far1 Q7 hubob _) hubob _) hubob _) hubob _) hubob _) hubob _), (far1 (far1 (far1 (far1 (far1 (far1 K7 hubkb _) hubkb _) hubkb _) hubkb _) hubkb _) hubkb _), ?_, (mu_far (p := ⟨ub, 11, none⟩) (mu_far (p := ⟨ub, 10, none⟩) (mu_far (p := ⟨ub, 9, none⟩) (mu_far (p := ⟨ub, 8, none⟩) (mu_far (p := ⟨ub, 7, none⟩) (mu_far (p := ⟨ub, 5, none⟩) M7 hMub _) hMub _) hMub _) hMub _) hMub _) hMub _), (bel1 (bel1 (bel1 (bel1 (bel1 (bel1 B7 hubw _) hubw _) hubw _) hubw _) hubw _) hubw _), ?_⟩
         ·rw [← HU.out]; exact nu_k1 U7 _ _ _ _ _
         ·simp only [sz]; exact hsz
        ·have q1 : (x.k == 1) = false := by simp [k1]
         by_cases k2 : x.k = 2
         ·have q2 : (x.k == 2) = true := by simp [k2]
          have HU : Hid ((⟨r.id, dn + 1, ta, tb, tc, 2, x.t, 0, 0, ByteArray.empty, 0, 0, 0⟩ : M1.Upd) = u) := (by rw [← hu.out, M1.nuU_2 k2, HT.out, hdn2.out] : _ = _)
          go_wp2_with fail
          go_meet
          have sz : ∀ (w : World) (p : Addr) (v : Value), (w.setCell p v).heap.size = w.heap.size := fun _ _ _ => by simp [World.setCell]
          refine ⟨(far1 P7 hubp _), (far1 Z7 hubz _), (far1 Y7 huby _), (far1 Q7 hubob _), (far1 K7 hubkb _), ?_, (mu_far (p := ⟨ub, 5, none⟩) M7 hMub _), (bel1 B7 hubw _), ?_⟩
          ·rw [← HU.out]; exact nu_k2 U7
          ·simp only [sz]; exact hsz
         ·have q2 : (x.k == 2) = false := by simp [k2]
          have HU : Hid ((⟨r.id, dn + 1, ta, tb, tc, 3, x.t, 0, 0, ByteArray.empty, 0, 0, lv + 1⟩ : M1.Upd) = u) := (by rw [← hu.out, M1.nuU_3 k1 k2, HT.out, hdn2.out, hlv.out] : _ = _)
          go_wp2_with fail
          go_meet
          have sz : ∀ (w : World) (p : Addr) (v : Value), (w.setCell p v).heap.size = w.heap.size := fun _ _ _ => by simp [World.setCell]
          refine ⟨(far1 (far1 P7 hubp _) hubp _), (far1 (far1 Z7 hubz _) hubz _), (far1 (far1 Y7 huby _) huby _), (far1 (far1 Q7 hubob _) hubob _), (far1 (far1 K7 hubkb _) hubkb _), ?_, (mu_far (p := ⟨ub, 12, none⟩) (mu_far (p := ⟨ub, 5, none⟩) M7 hMub _) hMub _), (bel1 (bel1 B7 hubw _) hubw _), ?_⟩
          ·rw [← HU.out]; exact nu_k3 U7 _
          ·simp only [sz]; exact hsz
       case rest =>
        obtain ⟨P8, Z8, Y8, Q8, K8, U8, M8, B8, hsz8⟩ := hcut
        obtain ⟨w8, hw8⟩ : ∃ v, v = wc := ⟨_, rfl⟩
        rw [← hw8] at P8 Z8 Y8 Q8 K8 U8 M8 B8 hsz8 ⊢
        clear hw8
        clear e0 e1 e2 e3 e4 e5 e6 ol ca0 ca1 ca2 ca3 ca4 ca5 ca6 ca7 ca8 ca9 ca10 ca11 ca12 fa0 fa1 fa2 fa3 fa4 fa5 fa6 fa7 fa8 fa9 fa10 fa11 fa12 ul P7 O7 Z7 Y7 Q7 K7 U7 M7 hsz
        obtain ⟨k0, k1, k2⟩ := StAt.cells K8
        have kl := K8.lt
        obtain ⟨a0, a1, a2, a3, a4⟩ := Q8.cells
        obtain ⟨b0, b1, b2, b3, b4⟩ := Q8.frees
        have ql := Q8.lt
        have Q9 : RgAt (((w8.setCell ⟨ob, 1, none⟩ (.int .i64 ta)).setCell ⟨ob, 2, none⟩ (.int .i64 tb)).setCell ⟨ob, 3, none⟩ (.int .i64 tc)) ob r.id ta tb tc v1 n c1 := rg_clock Q8 ta tb tc
        have P9 : RgAt (((w8.setCell ⟨ob, 1, none⟩ (.int .i64 ta)).setCell ⟨ob, 2, none⟩ (.int .i64 tb)).setCell ⟨ob, 3, none⟩ (.int .i64 tc)) p r.id r.a r.b r.c av n cn := far1 (far1 (far1 P8 hobp _) hobp _) hobp _
        have Z9 : RgAt (((w8.setCell ⟨ob, 1, none⟩ (.int .i64 ta)).setCell ⟨ob, 2, none⟩ (.int .i64 tb)).setCell ⟨ob, 3, none⟩ (.int .i64 tc)) z 0 0 0 0 none 0 0 := far1 (far1 (far1 Z8 hobz _) hobz _) hobz _
        have Y9 : RowAt (((w8.setCell ⟨ob, 1, none⟩ (.int .i64 ta)).setCell ⟨ob, 2, none⟩ (.int .i64 tb)).setCell ⟨ob, 3, none⟩ (.int .i64 tc)) y 13 (uq M1.zeroU) := far1 (far1 (far1 Y8 hoby _) hoby _) hoby _
        have hobub : ¬ ob = ub := fun e => hubob e.symm
        have U9 : RowAt (((w8.setCell ⟨ob, 1, none⟩ (.int .i64 ta)).setCell ⟨ob, 2, none⟩ (.int .i64 tb)).setCell ⟨ob, 3, none⟩ (.int .i64 tc)) ub 13 (uq u) := far1 (far1 (far1 U8 hobub _) hobub _) hobub _
        have M9 : MU (((w8.setCell ⟨ob, 1, none⟩ (.int .i64 ta)).setCell ⟨ob, 2, none⟩ (.int .i64 tb)).setCell ⟨ob, 3, none⟩ (.int .i64 tc)) v1 n c1 W0.heap.size w1.heap.size (ucell r.us) := mu_far (p := ⟨ob, 3, none⟩) (mu_far (p := ⟨ob, 2, none⟩) (mu_far (p := ⟨ob, 1, none⟩) M8 hMob _) hMob _) hMob _
        have B9 : Below w.heap.size w (((w8.setCell ⟨ob, 1, none⟩ (.int .i64 ta)).setCell ⟨ob, 2, none⟩ (.int .i64 tb)).setCell ⟨ob, 3, none⟩ (.int .i64 tc)) := bel1 (bel1 (bel1 B8 hobw _) hobw _) hobw _
        go_upto_region 20 with fail
        obtain ⟨W9, hW9⟩ : ∃ W, (((w8.setCell ⟨ob, 1, none⟩ (.int .i64 ta)).setCell ⟨ob, 2, none⟩ (.int .i64 tb)).setCell ⟨ob, 3, none⟩ (.int .i64 tc)) = W := ⟨_, rfl⟩
        rw [hW9] at Q9 P9 Z9 Y9 U9 M9 B9 ⊢
        clear hW9 k0 k1 k2 kl a0 a1 a2 a3 a4 b0 b1 b2 b3 b4 ql P8 Z8 Y8 Q8 K8 U8 M8 hsz8
        obtain ⟨a0, a1, a2, a3, a4⟩ := Q9.cells
        have ql := Q9.lt
        obtain ⟨ca0, ca1, ca2, ca3, ca4, ca5, ca6, ca7, ca8, ca9, ca10, ca11, ca12⟩ := uq_cells U9
        have ul := U9.lt
        have yl9 := Y9.lt
        have zl9 := Z9.lt
        have pl9 := P9.lt
        go_wp2_with fail
        refine (l3Put_any _ _ _ r.us u _ (M9.upds hln.out hU.htxt) (by omega)).mono ?_
        rintro e w10 ⟨⟨v10, ns, rfl, hput, own10⟩, hb10⟩
        have hns : ns = M1.insD r.us u := M1.putR_ins hput
        subst hns
        obtain ⟨a10, c10, rfl, mu10⟩ := MU.of_owns own10
        have B10 := B9.trans (hb10.mono B9.size)
        have hs10 := hb10.size
        clear hput own10 a0 a1 a2 a3 a4 ca0 ca1 ca2 ca3 ca4 ca5 ca6 ca7 ca8 ca9 ca10 ca11 ca12
        have P10 : RgAt w10 p r.id r.a r.b r.c av n cn := P9.below hb10
        have Z10 : RgAt w10 z 0 0 0 0 none 0 0 := Z9.below hb10
        have Y10 : RowAt w10 y 13 (uq M1.zeroU) := RowAt.below Y9 hb10
        have U10 : RowAt w10 ub 13 (uq u) := RowAt.below U9 hb10
        have Q10 : RgAt w10 ob r.id ta tb tc v1 n c1 := Q9.below hb10
        clear P9 Z9 Y9 U9 Q9
        have hux : u.s.size ≤ maxLen := by rw [← hu.out, ← nuV_nu]; exact nuV_s hxs
        have hsh : ∀ i, i < (M1.insD r.us u).length → (M1.up (M1.insD r.us u) i).s.size ≤ maxLen := fun i hi => by
         rcases M1.insD_mem (M1.up_mem hi) with hm | hm
         ·obtain ⟨j, hj, e⟩ := M1.mem_up hm
          rw [← e]; exact hU.htxt j (by rw [← hln.out]; exact hj)
         ·rw [hm]; exact hux
        have HN : Hid (M1.isN r x now = ⟨r.id, ta, tb, tc, M1.insD r.us u⟩) := (by unfold M1.isN; rw [hu.out, HT.out] : _ = _)
        have HK : Hid (M1.regOk r.id ta tb tc (M1.insD r.us u) = M1.tOk r.us [u]) := (by have h := M1.nu_reg (o := x) (now := now) HO.out ho5.out; rw [HN.out, hu.out] at h; exact h : _ = _)
        obtain ⟨T, hT⟩ : ∃ T, Hid (M1.insD r.us u = T) := ⟨_, rfl⟩
        rw [hT.out] at mu10 hsh HN HK ⊢
        obtain ⟨a0, a1, a2, a3, a4⟩ := Q10.cells
        obtain ⟨b0, b1, b2, b3, b4⟩ := Q10.frees
        have ql10 := Q10.lt
        have hTob : ∀ q, a10 = some q → ¬ q.block = ob := fun q hq => by
         rcases mu10.2.2 with ⟨_, e⟩ | ⟨g, e, h1, h2, _⟩
         ·rw [e] at hq; cases hq
         ·rw [e] at hq; cases hq; show ¬ g = ob; omega
        have Q11 : RgAt (w10.setCell ⟨ob, 4, none⟩ (.slice a10 T.length c10)) ob r.id ta tb tc a10 T.length c10 := rg_set Q10 _ _ _
        have P11 : RgAt (w10.setCell ⟨ob, 4, none⟩ (.slice a10 T.length c10)) p r.id r.a r.b r.c av n cn := far1 P10 hobp _
        have Z11 : RgAt (w10.setCell ⟨ob, 4, none⟩ (.slice a10 T.length c10)) z 0 0 0 0 none 0 0 := far1 Z10 hobz _
        have Y11 : RowAt (w10.setCell ⟨ob, 4, none⟩ (.slice a10 T.length c10)) y 13 (uq M1.zeroU) := far1 Y10 hoby _
        have U11 : RowAt (w10.setCell ⟨ob, 4, none⟩ (.slice a10 T.length c10)) ub 13 (uq u) := far1 U10 hobub _
        have mu11 : MU (w10.setCell ⟨ob, 4, none⟩ (.slice a10 T.length c10)) a10 T.length c10 W9.heap.size w10.heap.size (ucell T) := mu_far (p := ⟨ob, 4, none⟩) mu10 hTob _
        have B11 : Below w.heap.size w (w10.setCell ⟨ob, 4, none⟩ (.slice a10 T.length c10)) := bel1 B10 hobw _
        have s11 : w10.heap.size ≤ (w10.setCell ⟨ob, 4, none⟩ (.slice a10 T.length c10)).heap.size := (bel1 (Below.refl 0 w10) (Nat.zero_le ob) (.slice a10 T.length c10)).size
        go_upto_region 21 with fail
        obtain ⟨W11, hW11⟩ : ∃ W, (w10.setCell ⟨ob, 4, none⟩ (.slice a10 T.length c10)) = W := ⟨_, rfl⟩
        rw [hW11] at Q11 P11 Z11 Y11 U11 mu11 B11 s11 ⊢
        clear hW11 a0 a1 a2 a3 a4 b0 b1 b2 b3 b4 ql10 P10 Z10 Y10 U10 Q10 mu10
        obtain ⟨o6, ho6⟩ : ∃ o, Hid (M1.tOk r.us [u] = o) := ⟨_, rfl⟩
        obtain ⟨a0, a1, a2, a3, a4⟩ := Q11.cells
        have ql11 := Q11.lt
        go_wp2_with fail
        refine (regionOk_spec r.id ta tb tc _ _ _ T _ (mu11.upds rfl hsh)).mono ?_
        rw [HK.out, ho6.out]
        rintro e w12 ⟨rfl, hb12⟩
        have B12 := B11.trans (hb12.mono B11.size)
        have hs12 := hb12.size
        clear a0 a1 a2 a3 a4
        have P12 : RgAt w12 p r.id r.a r.b r.c av n cn := P11.below hb12
        have Z12 : RgAt w12 z 0 0 0 0 none 0 0 := Z11.below hb12
        have Y12 : RowAt w12 y 13 (uq M1.zeroU) := RowAt.below Y11 hb12
        have U12 : RowAt w12 ub 13 (uq u) := RowAt.below U11 hb12
        have Q12 : RgAt w12 ob r.id ta tb tc a10 T.length c10 := Q11.below hb12
        have T12 : MU w12 a10 T.length c10 W9.heap.size w10.heap.size (ucell T) := mu11.below hb12
        clear P11 Z11 Y11 U11 Q11 mu11
        cases o6 with
        | false =>
         obtain ⟨d0, d1, d2, d3, d4⟩ := P12.cells
         have pl := P12.lt
         have hylw12 := Y12.lt
         have zlw12 := Z12.lt
         go_wp2_with fail
         refine (l5Copy_any r.id r.a r.b r.c r.us _ _ _ _ (hU.below B12) (by omega)).mono ?_
         rintro e w13 ⟨⟨v13, c13, rfl, mu13⟩, hb13⟩
         have B13 := B12.trans (hb13.mono B12.size)
         have hsw12 := B12.size
         clear d0 d1 d2 d3 d4 pl
         have P13 : RgAt w13 p r.id r.a r.b r.c av n cn := P12.below hb13
         have Z13 : RgAt w13 z 0 0 0 0 none 0 0 := Z12.below hb13
         have Y13 : RowAt w13 y 13 (uq M1.zeroU) := RowAt.below Y12 hb13
         have U13 : RowAt w13 ub 13 (uq u) := RowAt.below U12 hb13
         have Q13 : RgAt w13 ob r.id ta tb tc a10 T.length c10 := Q12.below hb13
         have T13 : MU w13 a10 T.length c10 W9.heap.size w10.heap.size (ucell T) := T12.below hb13
         clear P12 Z12 Y12 U12 Q12 T12
         clear hzq
         have hzq : ∀ q, v13 = some q → ¬ q.block = z := fun q hq => by
          rcases mu13.2.2 with ⟨_, e⟩ | ⟨g, e, h1, _, _⟩
          ·rw [e] at hq; cases hq
          ·rw [e] at hq; cases hq; show ¬ g = z; omega
         have HC : Hid (M1.isC r x now = 3 ∧ M1.isR r x now = r ∧ M1.isU r x now = M1.zeroU) := M1.is_3 HO.out HF.out ho4.out ho5.out (by rw [hu.out]; exact ho6.out)
         obtain ⟨a0, a1, a2, a3, a4⟩ := Z13.cells
         obtain ⟨b0, b1, b2, b3, b4⟩ := Z13.frees
         have zl9 := Z13.lt
         obtain ⟨ca0, ca1, ca2, ca3, ca4, ca5, ca6, ca7, ca8, ca9, ca10, ca11, ca12⟩ := uq_cells Y13
         obtain ⟨fa0, fa1, fa2, fa3, fa4, fa5, fa6, fa7, fa8, fa9, fa10, fa11, fa12⟩ := uq_free Y13
         have yl9 := Y13.lt
         have zf : RgAt (((((w13.setCell ⟨z, 0, none⟩ (.int .i64 r.id)).setCell ⟨z, 1, none⟩ (.int .i64 r.a)).setCell ⟨z, 2, none⟩ (.int .i64 r.b)).setCell ⟨z, 3, none⟩ (.int .i64 r.c)).setCell ⟨z, 4, none⟩ (.slice v13 n c13)) z r.id r.a r.b r.c v13 n c13 := Z13.put r.id r.a r.b r.c v13 n c13
         have yf : RowAt (((((w13.setCell ⟨z, 0, none⟩ (.int .i64 r.id)).setCell ⟨z, 1, none⟩ (.int .i64 r.a)).setCell ⟨z, 2, none⟩ (.int .i64 r.b)).setCell ⟨z, 3, none⟩ (.int .i64 r.c)).setCell ⟨z, 4, none⟩ (.slice v13 n c13)) y 13 (uq M1.zeroU) := far5 Y13 hzy _ _ _ _ _
         have zz : RowAt ((((((((((((((((((w13.setCell ⟨z, 0, none⟩ (.int .i64 r.id)).setCell ⟨z, 1, none⟩ (.int .i64 r.a)).setCell ⟨z, 2, none⟩ (.int .i64 r.b)).setCell ⟨z, 3, none⟩ (.int .i64 r.c)).setCell ⟨z, 4, none⟩ (.slice v13 n c13)).setCell ⟨y, 0, none⟩ (.int .i64 0)).setCell ⟨y, 1, none⟩ (.int .i64 0)).setCell ⟨y, 2, none⟩ (.int .i64 0)).setCell ⟨y, 3, none⟩ (.int .i64 0)).setCell ⟨y, 4, none⟩ (.int .i64 0)).setCell ⟨y, 5, none⟩ (.int .i64 0)).setCell ⟨y, 6, none⟩ (.int .i64 0)).setCell ⟨y, 7, none⟩ (.int .i64 0)).setCell ⟨y, 8, none⟩ (.int .i64 0)).setCell ⟨y, 9, none⟩ (.string ⟨#[]⟩)).setCell ⟨y, 10, none⟩ (.int .i64 0)).setCell ⟨y, 11, none⟩ (.int .i64 0)).setCell ⟨y, 12, none⟩ (.int .i64 0)) y 13 (uq M1.zeroU) := uq_put yf M1.zeroU
         have zr : RgAt ((((((((((((((((((w13.setCell ⟨z, 0, none⟩ (.int .i64 r.id)).setCell ⟨z, 1, none⟩ (.int .i64 r.a)).setCell ⟨z, 2, none⟩ (.int .i64 r.b)).setCell ⟨z, 3, none⟩ (.int .i64 r.c)).setCell ⟨z, 4, none⟩ (.slice v13 n c13)).setCell ⟨y, 0, none⟩ (.int .i64 0)).setCell ⟨y, 1, none⟩ (.int .i64 0)).setCell ⟨y, 2, none⟩ (.int .i64 0)).setCell ⟨y, 3, none⟩ (.int .i64 0)).setCell ⟨y, 4, none⟩ (.int .i64 0)).setCell ⟨y, 5, none⟩ (.int .i64 0)).setCell ⟨y, 6, none⟩ (.int .i64 0)).setCell ⟨y, 7, none⟩ (.int .i64 0)).setCell ⟨y, 8, none⟩ (.int .i64 0)).setCell ⟨y, 9, none⟩ (.string ⟨#[]⟩)).setCell ⟨y, 10, none⟩ (.int .i64 0)).setCell ⟨y, 11, none⟩ (.int .i64 0)).setCell ⟨y, 12, none⟩ (.int .i64 0)) z r.id r.a r.b r.c v13 n c13 := far13 zf hyz M1.zeroU
         have BB : Below w.heap.size w ((((((((((((((((((w13.setCell ⟨z, 0, none⟩ (.int .i64 r.id)).setCell ⟨z, 1, none⟩ (.int .i64 r.a)).setCell ⟨z, 2, none⟩ (.int .i64 r.b)).setCell ⟨z, 3, none⟩ (.int .i64 r.c)).setCell ⟨z, 4, none⟩ (.slice v13 n c13)).setCell ⟨y, 0, none⟩ (.int .i64 0)).setCell ⟨y, 1, none⟩ (.int .i64 0)).setCell ⟨y, 2, none⟩ (.int .i64 0)).setCell ⟨y, 3, none⟩ (.int .i64 0)).setCell ⟨y, 4, none⟩ (.int .i64 0)).setCell ⟨y, 5, none⟩ (.int .i64 0)).setCell ⟨y, 6, none⟩ (.int .i64 0)).setCell ⟨y, 7, none⟩ (.int .i64 0)).setCell ⟨y, 8, none⟩ (.int .i64 0)).setCell ⟨y, 9, none⟩ (.string ⟨#[]⟩)).setCell ⟨y, 10, none⟩ (.int .i64 0)).setCell ⟨y, 11, none⟩ (.int .i64 0)).setCell ⟨y, 12, none⟩ (.int .i64 0)) := bel_put (bel_put5 B13 hzw _ _ _ _ _) hyw M1.zeroU
         have hm : MU ((((((((((((((((((w13.setCell ⟨z, 0, none⟩ (.int .i64 r.id)).setCell ⟨z, 1, none⟩ (.int .i64 r.a)).setCell ⟨z, 2, none⟩ (.int .i64 r.b)).setCell ⟨z, 3, none⟩ (.int .i64 r.c)).setCell ⟨z, 4, none⟩ (.slice v13 n c13)).setCell ⟨y, 0, none⟩ (.int .i64 0)).setCell ⟨y, 1, none⟩ (.int .i64 0)).setCell ⟨y, 2, none⟩ (.int .i64 0)).setCell ⟨y, 3, none⟩ (.int .i64 0)).setCell ⟨y, 4, none⟩ (.int .i64 0)).setCell ⟨y, 5, none⟩ (.int .i64 0)).setCell ⟨y, 6, none⟩ (.int .i64 0)).setCell ⟨y, 7, none⟩ (.int .i64 0)).setCell ⟨y, 8, none⟩ (.int .i64 0)).setCell ⟨y, 9, none⟩ (.string ⟨#[]⟩)).setCell ⟨y, 10, none⟩ (.int .i64 0)).setCell ⟨y, 11, none⟩ (.int .i64 0)).setCell ⟨y, 12, none⟩ (.int .i64 0)) v13 n c13 w12.heap.size ((((((((((((((((((w13.setCell ⟨z, 0, none⟩ (.int .i64 r.id)).setCell ⟨z, 1, none⟩ (.int .i64 r.a)).setCell ⟨z, 2, none⟩ (.int .i64 r.b)).setCell ⟨z, 3, none⟩ (.int .i64 r.c)).setCell ⟨z, 4, none⟩ (.slice v13 n c13)).setCell ⟨y, 0, none⟩ (.int .i64 0)).setCell ⟨y, 1, none⟩ (.int .i64 0)).setCell ⟨y, 2, none⟩ (.int .i64 0)).setCell ⟨y, 3, none⟩ (.int .i64 0)).setCell ⟨y, 4, none⟩ (.int .i64 0)).setCell ⟨y, 5, none⟩ (.int .i64 0)).setCell ⟨y, 6, none⟩ (.int .i64 0)).setCell ⟨y, 7, none⟩ (.int .i64 0)).setCell ⟨y, 8, none⟩ (.int .i64 0)).setCell ⟨y, 9, none⟩ (.string ⟨#[]⟩)).setCell ⟨y, 10, none⟩ (.int .i64 0)).setCell ⟨y, 11, none⟩ (.int .i64 0)).setCell ⟨y, 12, none⟩ (.int .i64 0)).heap.size (ucell r.us) := mu_both mu13 hzq hylw12 _ _ _ _ _ M1.zeroU
         go_wp2_with fail
         clear a0 a1 a2 a3 a4 b0 b1 b2 b3 b4 ca0 ca1 ca2 ca3 ca4 ca5 ca6 ca7 ca8 ca9 ca10 ca11 ca12 fa0 fa1 fa2 fa3 fa4 fa5 fa6 fa7 fa8 fa9 fa10 fa11 fa12 zf yf
         obtain ⟨Wz, hWz⟩ : ∃ W, ((((((((((((((((((w13.setCell ⟨z, 0, none⟩ (.int .i64 r.id)).setCell ⟨z, 1, none⟩ (.int .i64 r.a)).setCell ⟨z, 2, none⟩ (.int .i64 r.b)).setCell ⟨z, 3, none⟩ (.int .i64 r.c)).setCell ⟨z, 4, none⟩ (.slice v13 n c13)).setCell ⟨y, 0, none⟩ (.int .i64 0)).setCell ⟨y, 1, none⟩ (.int .i64 0)).setCell ⟨y, 2, none⟩ (.int .i64 0)).setCell ⟨y, 3, none⟩ (.int .i64 0)).setCell ⟨y, 4, none⟩ (.int .i64 0)).setCell ⟨y, 5, none⟩ (.int .i64 0)).setCell ⟨y, 6, none⟩ (.int .i64 0)).setCell ⟨y, 7, none⟩ (.int .i64 0)).setCell ⟨y, 8, none⟩ (.int .i64 0)).setCell ⟨y, 9, none⟩ (.string ⟨#[]⟩)).setCell ⟨y, 10, none⟩ (.int .i64 0)).setCell ⟨y, 11, none⟩ (.int .i64 0)).setCell ⟨y, 12, none⟩ (.int .i64 0)) = W := ⟨_, rfl⟩
         rw [hWz] at zz zr BB hm ⊢
         clear hWz
         obtain ⟨r0, r1, r2, r3, r4⟩ := zr.cells
         obtain ⟨va0, va1, va2, va3, va4, va5, va6, va7, va8, va9, va10, va11, va12⟩ := uq_cells zz
         unfold M1.zeroU at va0 va1 va2 va3 va4 va5 va6 va7 va8 va9 va10 va11 va12
         refine bodyPost_ret (v := .tuple #[.agg #[.int .i64 r.id, .int .i64 r.a, .int .i64 r.b, .int .i64 r.c, .slice v13 n c13], .agg #[.int .i64 0, .int .i64 0, .int .i64 0, .int .i64 0, .int .i64 0, .int .i64 0, .int .i64 0, .int .i64 0, .int .i64 0, .string ByteArray.empty, .int .i64 0, .int .i64 0, .int .i64 0], .int .i64 3]) (by simp [results, Tryz.results49, go_sem, r0, r1, r2, r3, r4, va0, va1, va2, va3, va4, va5, va6, va7, va8, va9, va10, va11, va12]) rfl ?_
         exact ⟨⟨_, by rw [HC.out.1, HC.out.2.2]; rfl, by rw [HC.out.2.1]; exact ⟨v13, c13, by rw [hln.out], by rw [hln.out]; exact mu_low hm hsw12⟩⟩, BB⟩
        | true =>
         have HC : Hid (M1.isC r x now = 0 ∧ M1.isR r x now = M1.isN r x now ∧ M1.isU r x now = M1.nuU r x now) := M1.is_0 HO.out HF.out ho4.out ho5.out (by rw [hu.out]; exact ho6.out)
         have mu12 := mu_high T12 (by omega : _ ≤ w12.heap.size)
         clear hzq
         have hzq : ∀ q, a10 = some q → ¬ q.block = z := fun q hq => by
          rcases mu12.2.2 with ⟨_, e⟩ | ⟨g, e, h1, _, _⟩
          ·rw [e] at hq; cases hq
          ·rw [e] at hq; cases hq; show ¬ g = z; omega
         go_wp2_with fail
         refine wp_region_held_drew (S := fun w' => RgAt w' ob r.id ta tb tc a10 T.length c10 ∧ RowAt w' ub 13 (uq u)) (by kernel_rfl) ?_ (fun hHeld => ?_)
         ·exact ⟨RowAt.drew Q12, U12.drew⟩
         refine tZ (i:=0) (v:=.agg #[.int .i64 r.id, .int .i64 ta, .int .i64 tb, .int .i64 tc, .slice a10 T.length c10]) rfl (.inl ⟨by rfl, ?_⟩) hHeld ?_
         ·(intro w hSw; (try dsimp only at hSw); go_simp; (obtain ⟨h0, h1, h2, h3, h4⟩ := RgAt.cells hSw.1; simp [go_sem, h0, h1, h2, h3, h4]))
         (try simp only [Act.put, zZ])
         refine tZ (i:=1) (v:=.agg #[.int .i64 u.dr, .int .i64 u.dn, .int .i64 u.sw, .int .i64 u.sc, .int .i64 u.sr, .int .i64 u.k, .int .i64 u.tr, .int .i64 u.id, .int .i64 u.pa, .string u.s, .int .i64 u.st, .int .i64 u.en, .int .i64 u.lv]) rfl (.inl ⟨by rfl, ?_⟩) hHeld ?_
         ·(intro w hSw; (try dsimp only at hSw); go_simp; (obtain ⟨ca0, ca1, ca2, ca3, ca4, ca5, ca6, ca7, ca8, ca9, ca10, ca11, ca12⟩ := uq_cells hSw.2; simp [go_sem, ca0, ca1, ca2, ca3, ca4, ca5, ca6, ca7, ca8, ca9, ca10, ca11, ca12]))
         (try simp only [Act.put, zZ])
         obtain ⟨w13, hw13⟩ : ∃ W, w12.drew = W := ⟨_, rfl⟩
         have Z13 : RgAt w13 z 0 0 0 0 none 0 0 := by rw [← hw13]; exact RowAt.drew Z12
         have Y13 : RowAt w13 y 13 (uq M1.zeroU) := by rw [← hw13]; exact Y12.drew
         have B13 : Below w.heap.size w w13 := by rw [← hw13]; exact B12.drew
         have mu13 : MU w13 a10 T.length c10 W9.heap.size w13.heap.size (ucell T) := by rw [← hw13]; exact mu_high (mu12.below (Below.refl _ w12).drew) (Below.refl w12.heap.size w12).drew.size
         (try rw [hw13] at hHeld)
         rw [hw13]
         clear hw13
         obtain ⟨a0, a1, a2, a3, a4⟩ := Z13.cells
         obtain ⟨b0, b1, b2, b3, b4⟩ := Z13.frees
         have zl13 := Z13.lt
         refine wpAnyH_ready (rs := [2]) (by kernel_rfl) (by simp) ?_
         refine AllReadyH.cons (o := _) rfl (fun K hK => ?_) AllReadyH.nil
         go_simp
         skip
         refine hK.out _ _ ?_ (fun hHeld2 => ?_)
         ·exact ⟨far5 hHeld.1 (fun e => hobz e.symm) _ _ _ _ _, far5 hHeld.2 (fun e => hubz e.symm) _ _ _ _ _⟩
         clear hK K hHeld
         have hHeld := hHeld2
         clear hHeld2
         (try simp only [Act.put, zZ])
         have z4 : RgAt (((((w13.setCell ⟨z, 0, none⟩ (.int .i64 r.id)).setCell ⟨z, 1, none⟩ (.int .i64 ta)).setCell ⟨z, 2, none⟩ (.int .i64 tb)).setCell ⟨z, 3, none⟩ (.int .i64 tc)).setCell ⟨z, 4, none⟩ (.slice a10 T.length c10)) z r.id ta tb tc a10 T.length c10 := Z13.put r.id ta tb tc a10 T.length c10
         have y4 : RowAt (((((w13.setCell ⟨z, 0, none⟩ (.int .i64 r.id)).setCell ⟨z, 1, none⟩ (.int .i64 ta)).setCell ⟨z, 2, none⟩ (.int .i64 tb)).setCell ⟨z, 3, none⟩ (.int .i64 tc)).setCell ⟨z, 4, none⟩ (.slice a10 T.length c10)) y 13 (uq M1.zeroU) := far5 Y13 hzy _ _ _ _ _
         have B4 : Below w.heap.size w (((((w13.setCell ⟨z, 0, none⟩ (.int .i64 r.id)).setCell ⟨z, 1, none⟩ (.int .i64 ta)).setCell ⟨z, 2, none⟩ (.int .i64 tb)).setCell ⟨z, 3, none⟩ (.int .i64 tc)).setCell ⟨z, 4, none⟩ (.slice a10 T.length c10)) := bel_put5 B13 hzw _ _ _ _ _
         have mu4 : MU (((((w13.setCell ⟨z, 0, none⟩ (.int .i64 r.id)).setCell ⟨z, 1, none⟩ (.int .i64 ta)).setCell ⟨z, 2, none⟩ (.int .i64 tb)).setCell ⟨z, 3, none⟩ (.int .i64 tc)).setCell ⟨z, 4, none⟩ (.slice a10 T.length c10)) a10 T.length c10 W9.heap.size (((((w13.setCell ⟨z, 0, none⟩ (.int .i64 r.id)).setCell ⟨z, 1, none⟩ (.int .i64 ta)).setCell ⟨z, 2, none⟩ (.int .i64 tb)).setCell ⟨z, 3, none⟩ (.int .i64 tc)).setCell ⟨z, 4, none⟩ (.slice a10 T.length c10)).heap.size (ucell T) := mu_put5 mu13 hzq _ _ _ _ _
         clear a0 a1 a2 a3 a4 b0 b1 b2 b3 b4
         obtain ⟨w14, hw14⟩ : ∃ W, (((((w13.setCell ⟨z, 0, none⟩ (.int .i64 r.id)).setCell ⟨z, 1, none⟩ (.int .i64 ta)).setCell ⟨z, 2, none⟩ (.int .i64 tb)).setCell ⟨z, 3, none⟩ (.int .i64 tc)).setCell ⟨z, 4, none⟩ (.slice a10 T.length c10)) = W := ⟨_, rfl⟩
         rw [hw14] at hHeld z4 y4 B4 mu4 ⊢
         clear hw14
         obtain ⟨ca0, ca1, ca2, ca3, ca4, ca5, ca6, ca7, ca8, ca9, ca10, ca11, ca12⟩ := uq_cells y4
         obtain ⟨fa0, fa1, fa2, fa3, fa4, fa5, fa6, fa7, fa8, fa9, fa10, fa11, fa12⟩ := uq_free y4
         have yl14 := y4.lt
         refine wpAnyH_ready (rs := [3]) (by kernel_rfl) (by simp) ?_
         refine AllReadyH.cons (o := _) rfl (fun K hK => ?_) AllReadyH.nil
         go_simp
         skip
         refine hK.out _ _ ?_ (fun hHeld2 => ?_)
         ·exact ⟨far13 hHeld.1 (fun e => hoby e.symm) u, far13 hHeld.2 (fun e => huby e.symm) u⟩
         clear hK K hHeld
         have hHeld := hHeld2
         clear hHeld2
         (try simp only [Act.put, zZ])
         refine tZ (i:=4) (v:=?_) rfl (.inl ⟨by rfl, ?_⟩) hHeld ?_
         rotate_left
         ·(intro w hSw; (try dsimp only at hSw); go_simp; try (with_reducible rfl))
         (try simp only [Act.put, zZ])
         refine wpAnyH_done (by kernel_rfl) ?_ _
         have zz : RowAt (((((((((((((w14.setCell ⟨y, 0, none⟩ (.int .i64 u.dr)).setCell ⟨y, 1, none⟩ (.int .i64 u.dn)).setCell ⟨y, 2, none⟩ (.int .i64 u.sw)).setCell ⟨y, 3, none⟩ (.int .i64 u.sc)).setCell ⟨y, 4, none⟩ (.int .i64 u.sr)).setCell ⟨y, 5, none⟩ (.int .i64 u.k)).setCell ⟨y, 6, none⟩ (.int .i64 u.tr)).setCell ⟨y, 7, none⟩ (.int .i64 u.id)).setCell ⟨y, 8, none⟩ (.int .i64 u.pa)).setCell ⟨y, 9, none⟩ (.string u.s)).setCell ⟨y, 10, none⟩ (.int .i64 u.st)).setCell ⟨y, 11, none⟩ (.int .i64 u.en)).setCell ⟨y, 12, none⟩ (.int .i64 u.lv)) y 13 (uq u) := uq_put y4 u
         have zr : RgAt (((((((((((((w14.setCell ⟨y, 0, none⟩ (.int .i64 u.dr)).setCell ⟨y, 1, none⟩ (.int .i64 u.dn)).setCell ⟨y, 2, none⟩ (.int .i64 u.sw)).setCell ⟨y, 3, none⟩ (.int .i64 u.sc)).setCell ⟨y, 4, none⟩ (.int .i64 u.sr)).setCell ⟨y, 5, none⟩ (.int .i64 u.k)).setCell ⟨y, 6, none⟩ (.int .i64 u.tr)).setCell ⟨y, 7, none⟩ (.int .i64 u.id)).setCell ⟨y, 8, none⟩ (.int .i64 u.pa)).setCell ⟨y, 9, none⟩ (.string u.s)).setCell ⟨y, 10, none⟩ (.int .i64 u.st)).setCell ⟨y, 11, none⟩ (.int .i64 u.en)).setCell ⟨y, 12, none⟩ (.int .i64 u.lv)) z r.id ta tb tc a10 T.length c10 := far13 z4 hyz u
         have BB : Below w.heap.size w (((((((((((((w14.setCell ⟨y, 0, none⟩ (.int .i64 u.dr)).setCell ⟨y, 1, none⟩ (.int .i64 u.dn)).setCell ⟨y, 2, none⟩ (.int .i64 u.sw)).setCell ⟨y, 3, none⟩ (.int .i64 u.sc)).setCell ⟨y, 4, none⟩ (.int .i64 u.sr)).setCell ⟨y, 5, none⟩ (.int .i64 u.k)).setCell ⟨y, 6, none⟩ (.int .i64 u.tr)).setCell ⟨y, 7, none⟩ (.int .i64 u.id)).setCell ⟨y, 8, none⟩ (.int .i64 u.pa)).setCell ⟨y, 9, none⟩ (.string u.s)).setCell ⟨y, 10, none⟩ (.int .i64 u.st)).setCell ⟨y, 11, none⟩ (.int .i64 u.en)).setCell ⟨y, 12, none⟩ (.int .i64 u.lv)) := bel_put B4 hyw u
         have hm : MU (((((((((((((w14.setCell ⟨y, 0, none⟩ (.int .i64 u.dr)).setCell ⟨y, 1, none⟩ (.int .i64 u.dn)).setCell ⟨y, 2, none⟩ (.int .i64 u.sw)).setCell ⟨y, 3, none⟩ (.int .i64 u.sc)).setCell ⟨y, 4, none⟩ (.int .i64 u.sr)).setCell ⟨y, 5, none⟩ (.int .i64 u.k)).setCell ⟨y, 6, none⟩ (.int .i64 u.tr)).setCell ⟨y, 7, none⟩ (.int .i64 u.id)).setCell ⟨y, 8, none⟩ (.int .i64 u.pa)).setCell ⟨y, 9, none⟩ (.string u.s)).setCell ⟨y, 10, none⟩ (.int .i64 u.st)).setCell ⟨y, 11, none⟩ (.int .i64 u.en)).setCell ⟨y, 12, none⟩ (.int .i64 u.lv)) a10 T.length c10 W9.heap.size (((((((((((((w14.setCell ⟨y, 0, none⟩ (.int .i64 u.dr)).setCell ⟨y, 1, none⟩ (.int .i64 u.dn)).setCell ⟨y, 2, none⟩ (.int .i64 u.sw)).setCell ⟨y, 3, none⟩ (.int .i64 u.sc)).setCell ⟨y, 4, none⟩ (.int .i64 u.sr)).setCell ⟨y, 5, none⟩ (.int .i64 u.k)).setCell ⟨y, 6, none⟩ (.int .i64 u.tr)).setCell ⟨y, 7, none⟩ (.int .i64 u.id)).setCell ⟨y, 8, none⟩ (.int .i64 u.pa)).setCell ⟨y, 9, none⟩ (.string u.s)).setCell ⟨y, 10, none⟩ (.int .i64 u.st)).setCell ⟨y, 11, none⟩ (.int .i64 u.en)).setCell ⟨y, 12, none⟩ (.int .i64 u.lv)).heap.size (ucell T) := mu_high (mu_put13 mu4 yl9 u) (sz13 w14 y u)
         have hs9 := B9.size
         clear hHeld ca0 ca1 ca2 ca3 ca4 ca5 ca6 ca7 ca8 ca9 ca10 ca11 ca12 fa0 fa1 fa2 fa3 fa4 fa5 fa6 fa7 fa8 fa9 fa10 fa11 fa12
         go_wp2_with fail
         obtain ⟨Wz, hWz⟩ : ∃ W, (((((((((((((w14.setCell ⟨y, 0, none⟩ (.int .i64 u.dr)).setCell ⟨y, 1, none⟩ (.int .i64 u.dn)).setCell ⟨y, 2, none⟩ (.int .i64 u.sw)).setCell ⟨y, 3, none⟩ (.int .i64 u.sc)).setCell ⟨y, 4, none⟩ (.int .i64 u.sr)).setCell ⟨y, 5, none⟩ (.int .i64 u.k)).setCell ⟨y, 6, none⟩ (.int .i64 u.tr)).setCell ⟨y, 7, none⟩ (.int .i64 u.id)).setCell ⟨y, 8, none⟩ (.int .i64 u.pa)).setCell ⟨y, 9, none⟩ (.string u.s)).setCell ⟨y, 10, none⟩ (.int .i64 u.st)).setCell ⟨y, 11, none⟩ (.int .i64 u.en)).setCell ⟨y, 12, none⟩ (.int .i64 u.lv)) = W := ⟨_, rfl⟩
         rw [hWz] at zz zr BB hm ⊢
         clear hWz
         obtain ⟨r0, r1, r2, r3, r4⟩ := zr.cells
         obtain ⟨va0, va1, va2, va3, va4, va5, va6, va7, va8, va9, va10, va11, va12⟩ := uq_cells zz
         refine bodyPost_ret (v := .tuple #[.agg #[.int .i64 r.id, .int .i64 ta, .int .i64 tb, .int .i64 tc, .slice a10 T.length c10], .agg #[.int .i64 u.dr, .int .i64 u.dn, .int .i64 u.sw, .int .i64 u.sc, .int .i64 u.sr, .int .i64 u.k, .int .i64 u.tr, .int .i64 u.id, .int .i64 u.pa, .string u.s, .int .i64 u.st, .int .i64 u.en, .int .i64 u.lv], .int .i64 0]) (by simp [results, Tryz.results49, go_sem, r0, r1, r2, r3, r4, va0, va1, va2, va3, va4, va5, va6, va7, va8, va9, va10, va11, va12]) rfl ?_
         exact ⟨⟨_, by rw [HC.out.1, HC.out.2.2, hu.out], by rw [HC.out.2.1, HN.out]; exact ⟨a10, c10, rfl, mu_low hm hs9⟩⟩, BB⟩

end Go.Proofs.YtccendmoeelniaaGreatDoor
