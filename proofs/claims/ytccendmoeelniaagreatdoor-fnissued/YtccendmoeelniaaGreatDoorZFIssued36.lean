/-
  Texts of one proof, joined: Is5.
-/
import Derived.Test.YtccendmoeelniaaGreatDoorZFIssued34
import Derived.Test.YtccendmoeelniaaGreatDoorZFIssued35
import Derived.Test.YtccendmoeelniaaGreatDoorZFIssued22
namespace M1
theorem is_cases (r : Rg) (o : OpV) (now : Int) : (rOk r = false ∧ isC r o now = 1 ∧ isR r o now = zeroR ∧ isU r o now = zeroU) ∨ (rOk r = true ∧ (isC r o now = 2 ∨ isC r o now = 3 ∨ isC r o now = 4 ∨ isC r o now = 5) ∧ isR r o now = r ∧ isU r o now = zeroU) ∨ (rOk r = true ∧ isC r o now = 0 ∧ isR r o now = isN r o now ∧ isU r o now = nuU r o now ∧ tOk r.us [nuU r o now] = true) := by
 cases q : rOk r with
 | false => exact .inl ⟨rfl, is_1 q⟩
 | true =>
  cases q2 : isF o now with
  | true => have := is_2 q q2; exact .inr (.inl ⟨rfl, .inl this.1, this.2⟩)
  | false =>
   cases q3 : letsB r.us o with
   | false => have := is_5 q q2 q3; exact .inr (.inl ⟨rfl, .inr (.inr (.inr this.1)), this.2⟩)
   | true =>
    cases q4 : (tk r now).ok with
    | false => have := is_4 q q2 q3 q4; exact .inr (.inl ⟨rfl, .inr (.inr (.inl this.1)), this.2⟩)
    | true =>
     cases q5 : tOk r.us [nuU r o now] with
     | false => have := is_3 q q2 q3 q4 q5; exact .inr (.inl ⟨rfl, .inr (.inl this.1), this.2⟩)
     | true => have := is_0 q q2 q3 q4 q5; exact .inr (.inr ⟨rfl, this.1, this.2.1, this.2.2, rfl⟩)

theorem nu_txt {r : Rg} {o : OpV} {now : Int} (h : tOk r.us [nuU r o now] = true) : (nuU r o now).s.size ≤ 1000 := by
 cases hu : okU (nuU r o now) with
 | true => have := ok_txt hu; omega
 | false =>
  have a : tOk r.us [nuU r o now] = false := by
   unfold tOk tpre
   rw [allR_no (ys := [nuU r o now]) (j := 0) (by simp) hu]; simp
  rw [a] at h; cases h

end M1
namespace Go.Proofs.YtccendmoeelniaaGreatDoor
open Go.ChangeShapes Go.WideShapes Go.ChangeAt Go.RowKit
set_option linter.unusedSimpArgs false
set_option linter.unusedVariables false
theorem far5 {w : World} {k m z : Nat} {f : Nat → Value} (h : RowAt w k m f) (hn : ¬ z = k) (v0 v1 v2 v3 v4 : Value) : RowAt (((((w.setCell ⟨z, 0, none⟩ (v0)).setCell ⟨z, 1, none⟩ (v1)).setCell ⟨z, 2, none⟩ (v2)).setCell ⟨z, 3, none⟩ (v3)).setCell ⟨z, 4, none⟩ (v4)) k m f :=
 ((((h.far (p := ⟨z, 0, none⟩) hn v0).far (p := ⟨z, 1, none⟩) hn v1).far (p := ⟨z, 2, none⟩) hn v2).far (p := ⟨z, 3, none⟩) hn v3).far (p := ⟨z, 4, none⟩) hn v4

theorem sz13 (w : World) (z : Nat) (u : M1.Upd) : w.heap.size ≤ (((((((((((((w.setCell ⟨z, 0, none⟩ (.int .i64 u.dr)).setCell ⟨z, 1, none⟩ (.int .i64 u.dn)).setCell ⟨z, 2, none⟩ (.int .i64 u.sw)).setCell ⟨z, 3, none⟩ (.int .i64 u.sc)).setCell ⟨z, 4, none⟩ (.int .i64 u.sr)).setCell ⟨z, 5, none⟩ (.int .i64 u.k)).setCell ⟨z, 6, none⟩ (.int .i64 u.tr)).setCell ⟨z, 7, none⟩ (.int .i64 u.id)).setCell ⟨z, 8, none⟩ (.int .i64 u.pa)).setCell ⟨z, 9, none⟩ (.string u.s)).setCell ⟨z, 10, none⟩ (.int .i64 u.st)).setCell ⟨z, 11, none⟩ (.int .i64 u.en)).setCell ⟨z, 12, none⟩ (.int .i64 u.lv)).heap.size := (bel_put (Below.refl 0 w) (Nat.zero_le z) u).size

theorem mu_low {w : World} {av : Option Addr} {n cap lo lo' hi : Nat} {f : Nat → Value} (h : MU w av n cap lo hi f) (hl : lo' ≤ lo) : MU w av n cap lo' hi f :=
 ⟨h.1, h.2.1, h.2.2.imp (fun h => h) fun ⟨g, e, h1, h2, r⟩ => ⟨g, e, by omega, h2, r⟩⟩

theorem mu_high {w : World} {av : Option Addr} {n cap lo hi hi' : Nat} {f : Nat → Value} (h : MU w av n cap lo hi f) (hl : hi ≤ hi') : MU w av n cap lo hi' f :=
 ⟨h.1, h.2.1, h.2.2.imp (fun h => h) fun ⟨g, e, h1, h2, r⟩ => ⟨g, e, h1, by omega, r⟩⟩

theorem mu_both {w : World} {av : Option Addr} {n cap lo z y : Nat} {f : Nat → Value} (h : MU w av n cap lo w.heap.size f) (hz : ∀ q, av = some q → ¬ q.block = z) (hy : y < lo) (v0 v1 v2 v3 v4 : Value) (u : M1.Upd) : MU ((((((((((((((((((w.setCell ⟨z, 0, none⟩ (v0)).setCell ⟨z, 1, none⟩ (v1)).setCell ⟨z, 2, none⟩ (v2)).setCell ⟨z, 3, none⟩ (v3)).setCell ⟨z, 4, none⟩ (v4)).setCell ⟨y, 0, none⟩ (.int .i64 u.dr)).setCell ⟨y, 1, none⟩ (.int .i64 u.dn)).setCell ⟨y, 2, none⟩ (.int .i64 u.sw)).setCell ⟨y, 3, none⟩ (.int .i64 u.sc)).setCell ⟨y, 4, none⟩ (.int .i64 u.sr)).setCell ⟨y, 5, none⟩ (.int .i64 u.k)).setCell ⟨y, 6, none⟩ (.int .i64 u.tr)).setCell ⟨y, 7, none⟩ (.int .i64 u.id)).setCell ⟨y, 8, none⟩ (.int .i64 u.pa)).setCell ⟨y, 9, none⟩ (.string u.s)).setCell ⟨y, 10, none⟩ (.int .i64 u.st)).setCell ⟨y, 11, none⟩ (.int .i64 u.en)).setCell ⟨y, 12, none⟩ (.int .i64 u.lv)) av n cap lo ((((((((((((((((((w.setCell ⟨z, 0, none⟩ (v0)).setCell ⟨z, 1, none⟩ (v1)).setCell ⟨z, 2, none⟩ (v2)).setCell ⟨z, 3, none⟩ (v3)).setCell ⟨z, 4, none⟩ (v4)).setCell ⟨y, 0, none⟩ (.int .i64 u.dr)).setCell ⟨y, 1, none⟩ (.int .i64 u.dn)).setCell ⟨y, 2, none⟩ (.int .i64 u.sw)).setCell ⟨y, 3, none⟩ (.int .i64 u.sc)).setCell ⟨y, 4, none⟩ (.int .i64 u.sr)).setCell ⟨y, 5, none⟩ (.int .i64 u.k)).setCell ⟨y, 6, none⟩ (.int .i64 u.tr)).setCell ⟨y, 7, none⟩ (.int .i64 u.id)).setCell ⟨y, 8, none⟩ (.int .i64 u.pa)).setCell ⟨y, 9, none⟩ (.string u.s)).setCell ⟨y, 10, none⟩ (.int .i64 u.st)).setCell ⟨y, 11, none⟩ (.int .i64 u.en)).setCell ⟨y, 12, none⟩ (.int .i64 u.lv)).heap.size f :=
 mu_high (mu_put13 (mu_put5 h hz v0 v1 v2 v3 v4) hy u) (sz13 _ y u)

def IsS (w w' : World) (e : Ending) (r : M1.Rg) (x : M1.OpV) (now : Int) : Prop := ∃ v, e = .returned (.tuple #[v, .agg #[.int .i64 (M1.isU r x now).dr, .int .i64 (M1.isU r x now).dn, .int .i64 (M1.isU r x now).sw, .int .i64 (M1.isU r x now).sc, .int .i64 (M1.isU r x now).sr, .int .i64 (M1.isU r x now).k, .int .i64 (M1.isU r x now).tr, .int .i64 (M1.isU r x now).id, .int .i64 (M1.isU r x now).pa, .string (M1.isU r x now).s, .int .i64 (M1.isU r x now).st, .int .i64 (M1.isU r x now).en, .int .i64 (M1.isU r x now).lv], .int .i64 (M1.isC r x now)]) ∧ RgD w w' v (M1.isR r x now)

set_option maxHeartbeats 8000000 in
set_option maxRecDepth 100000 in
theorem issued_impl (s0 s1 s2 s3 s4 : Addr) (r : M1.Rg) (x : M1.OpV) (now : Int) (av : Option Addr) (n cn : Nat) (w : World) (S : Sens w s0 s1 s2 s3 s4) (hU : IsUpds w av n cn r.us) (hxs : x.s.size ≤ maxLen) :
  Calls Tryz.prog 10 #[.agg #[.int .i64 r.id, .int .i64 r.a, .int .i64 r.b, .int .i64 r.c, .slice av n cn], .agg #[.int .i64 x.k, .int .i64 x.t, .int .i64 x.id, .int .i64 x.pa, .string x.s, .int .i64 x.st, .int .i64 x.en], .int .i64 now] w fun e w' => IsS w w' e r x now ∧ Below w.heap.size w w' := by
 have hln : Hid (r.us.length = n) := hU.hlen
 have hA : Below w.heap.size w ((((w.alloc (.cells #[.int .i64 r.id, .int .i64 r.a, .int .i64 r.b, .int .i64 r.c, .slice av n cn] 28)).alloc (.cells #[.int .i64 x.k, .int .i64 x.t, .int .i64 x.id, .int .i64 x.pa, .string x.s, .int .i64 x.st, .int .i64 x.en] 32)).alloc (.cells #[.int .i64 0, .int .i64 0, .int .i64 0, .int .i64 0, .slice none 0 0] 28)).alloc (.cells #[.int .i64 0, .int .i64 0, .int .i64 0, .int .i64 0, .int .i64 0, .int .i64 0, .int .i64 0, .int .i64 0, .int .i64 0, .string ⟨#[]⟩, .int .i64 0, .int .i64 0, .int .i64 0] 38)) := ((((Below.refl _ _).alloc (Nat.le_refl _) _).alloc (by simp) _).alloc (by simp <;> omega) _).alloc (by simp <;> omega) _
 have P0 : RgAt ((((w.alloc (.cells #[.int .i64 r.id, .int .i64 r.a, .int .i64 r.b, .int .i64 r.c, .slice av n cn] 28)).alloc (.cells #[.int .i64 x.k, .int .i64 x.t, .int .i64 x.id, .int .i64 x.pa, .string x.s, .int .i64 x.st, .int .i64 x.en] 32)).alloc (.cells #[.int .i64 0, .int .i64 0, .int .i64 0, .int .i64 0, .slice none 0 0] 28)).alloc (.cells #[.int .i64 0, .int .i64 0, .int .i64 0, .int .i64 0, .int .i64 0, .int .i64 0, .int .i64 0, .int .i64 0, .int .i64 0, .string ⟨#[]⟩, .int .i64 0, .int .i64 0, .int .i64 0] 38)) w.heap.size r.id r.a r.b r.c av n cn := (((rg_new w r.id r.a r.b r.c av n cn 28).alloc _).alloc _).alloc _
 have o0 : OpAt ((((w.alloc (.cells #[.int .i64 r.id, .int .i64 r.a, .int .i64 r.b, .int .i64 r.c, .slice av n cn] 28)).alloc (.cells #[.int .i64 x.k, .int .i64 x.t, .int .i64 x.id, .int .i64 x.pa, .string x.s, .int .i64 x.st, .int .i64 x.en] 32)).alloc (.cells #[.int .i64 0, .int .i64 0, .int .i64 0, .int .i64 0, .slice none 0 0] 28)).alloc (.cells #[.int .i64 0, .int .i64 0, .int .i64 0, .int .i64 0, .int .i64 0, .int .i64 0, .int .i64 0, .int .i64 0, .int .i64 0, .string ⟨#[]⟩, .int .i64 0, .int .i64 0, .int .i64 0] 38)) (w.alloc (.cells #[.int .i64 r.id, .int .i64 r.a, .int .i64 r.b, .int .i64 r.c, .slice av n cn] 28)).heap.size x := ((op_new (w.alloc (.cells #[.int .i64 r.id, .int .i64 r.a, .int .i64 r.b, .int .i64 r.c, .slice av n cn] 28)) x 32).alloc _).alloc _
 have z0 : RgAt ((((w.alloc (.cells #[.int .i64 r.id, .int .i64 r.a, .int .i64 r.b, .int .i64 r.c, .slice av n cn] 28)).alloc (.cells #[.int .i64 x.k, .int .i64 x.t, .int .i64 x.id, .int .i64 x.pa, .string x.s, .int .i64 x.st, .int .i64 x.en] 32)).alloc (.cells #[.int .i64 0, .int .i64 0, .int .i64 0, .int .i64 0, .slice none 0 0] 28)).alloc (.cells #[.int .i64 0, .int .i64 0, .int .i64 0, .int .i64 0, .int .i64 0, .int .i64 0, .int .i64 0, .int .i64 0, .int .i64 0, .string ⟨#[]⟩, .int .i64 0, .int .i64 0, .int .i64 0] 38)) ((w.alloc (.cells #[.int .i64 r.id, .int .i64 r.a, .int .i64 r.b, .int .i64 r.c, .slice av n cn] 28)).alloc (.cells #[.int .i64 x.k, .int .i64 x.t, .int .i64 x.id, .int .i64 x.pa, .string x.s, .int .i64 x.st, .int .i64 x.en] 32)).heap.size 0 0 0 0 none 0 0 := (rg_new ((w.alloc (.cells #[.int .i64 r.id, .int .i64 r.a, .int .i64 r.b, .int .i64 r.c, .slice av n cn] 28)).alloc (.cells #[.int .i64 x.k, .int .i64 x.t, .int .i64 x.id, .int .i64 x.pa, .string x.s, .int .i64 x.st, .int .i64 x.en] 32)) 0 0 0 0 none 0 0 28).alloc _
 have y0 : RowAt ((((w.alloc (.cells #[.int .i64 r.id, .int .i64 r.a, .int .i64 r.b, .int .i64 r.c, .slice av n cn] 28)).alloc (.cells #[.int .i64 x.k, .int .i64 x.t, .int .i64 x.id, .int .i64 x.pa, .string x.s, .int .i64 x.st, .int .i64 x.en] 32)).alloc (.cells #[.int .i64 0, .int .i64 0, .int .i64 0, .int .i64 0, .slice none 0 0] 28)).alloc (.cells #[.int .i64 0, .int .i64 0, .int .i64 0, .int .i64 0, .int .i64 0, .int .i64 0, .int .i64 0, .int .i64 0, .int .i64 0, .string ⟨#[]⟩, .int .i64 0, .int .i64 0, .int .i64 0] 38)) (((w.alloc (.cells #[.int .i64 r.id, .int .i64 r.a, .int .i64 r.b, .int .i64 r.c, .slice av n cn] 28)).alloc (.cells #[.int .i64 x.k, .int .i64 x.t, .int .i64 x.id, .int .i64 x.pa, .string x.s, .int .i64 x.st, .int .i64 x.en] 32)).alloc (.cells #[.int .i64 0, .int .i64 0, .int .i64 0, .int .i64 0, .slice none 0 0] 28)).heap.size 13 (uq M1.zeroU) := uq_new (((w.alloc (.cells #[.int .i64 r.id, .int .i64 r.a, .int .i64 r.b, .int .i64 r.c, .slice av n cn] 28)).alloc (.cells #[.int .i64 x.k, .int .i64 x.t, .int .i64 x.id, .int .i64 x.pa, .string x.s, .int .i64 x.st, .int .i64 x.en] 32)).alloc (.cells #[.int .i64 0, .int .i64 0, .int .i64 0, .int .i64 0, .slice none 0 0] 28)) M1.zeroU 38
 rw [show (w.alloc (.cells #[.int .i64 r.id, .int .i64 r.a, .int .i64 r.b, .int .i64 r.c, .slice av n cn] 28)).heap.size = w.heap.size + 1 by simp] at o0
 rw [show ((w.alloc (.cells #[.int .i64 r.id, .int .i64 r.a, .int .i64 r.b, .int .i64 r.c, .slice av n cn] 28)).alloc (.cells #[.int .i64 x.k, .int .i64 x.t, .int .i64 x.id, .int .i64 x.pa, .string x.s, .int .i64 x.st, .int .i64 x.en] 32)).heap.size = w.heap.size + 1 + 1 by simp] at z0
 rw [show (((w.alloc (.cells #[.int .i64 r.id, .int .i64 r.a, .int .i64 r.b, .int .i64 r.c, .slice av n cn] 28)).alloc (.cells #[.int .i64 x.k, .int .i64 x.t, .int .i64 x.id, .int .i64 x.pa, .string x.s, .int .i64 x.st, .int .i64 x.en] 32)).alloc (.cells #[.int .i64 0, .int .i64 0, .int .i64 0, .int .i64 0, .slice none 0 0] 28)).heap.size = w.heap.size + 1 + 1 + 1 by simp] at y0
 go_enter Tryz.func10, Tryz.ntmps10
 go_upto_region 1 with fail
 obtain ⟨W0, hW0⟩ : ∃ W, ((((w.alloc (.cells #[.int .i64 r.id, .int .i64 r.a, .int .i64 r.b, .int .i64 r.c, .slice av n cn] 28)).alloc (.cells #[.int .i64 x.k, .int .i64 x.t, .int .i64 x.id, .int .i64 x.pa, .string x.s, .int .i64 x.st, .int .i64 x.en] 32)).alloc (.cells #[.int .i64 0, .int .i64 0, .int .i64 0, .int .i64 0, .slice none 0 0] 28)).alloc (.cells #[.int .i64 0, .int .i64 0, .int .i64 0, .int .i64 0, .int .i64 0, .int .i64 0, .int .i64 0, .int .i64 0, .int .i64 0, .string ⟨#[]⟩, .int .i64 0, .int .i64 0, .int .i64 0] 38)) = W := ⟨_, rfl⟩
 rw [hW0] at hA P0 o0 z0 y0 ⊢
 clear hW0
 obtain ⟨y, hy⟩ : ∃ y, Hid (w.heap.size + 1 + 1 + 1 = y) := ⟨_, rfl⟩
 obtain ⟨z, hz⟩ : ∃ z, Hid (w.heap.size + 1 + 1 = z) := ⟨_, rfl⟩
 obtain ⟨o, ho⟩ : ∃ o, Hid (w.heap.size + 1 = o) := ⟨_, rfl⟩
 obtain ⟨p, hp⟩ : ∃ p, Hid (w.heap.size = p) := ⟨_, rfl⟩
 have hyw : w.heap.size ≤ y := by have := hy.out; omega
 have hzw : w.heap.size ≤ z := by have := hz.out; omega
 have how : w.heap.size ≤ o := by have := ho.out; omega
 have hpw : w.heap.size ≤ p := by have := hp.out; omega
 have hyz : ¬ y = z := by have := hy.out; have := hz.out; omega
 have hzy : ¬ z = y := by have := hy.out; have := hz.out; omega
 have hpz : ¬ p = z := by have := hp.out; have := hz.out; omega
 have hpy : ¬ p = y := by have := hp.out; have := hy.out; omega
 have hoz : ¬ o = z := by have := ho.out; have := hz.out; omega
 have hoy : ¬ o = y := by have := ho.out; have := hy.out; omega
 rw [hy.out] at y0 ⊢
 rw [hz.out] at z0 ⊢
 rw [ho.out] at o0 ⊢
 rw [hp.out] at P0 ⊢
 have S0 := S.below hA
 have zl0 := z0.lt
 have yl0 := y0.lt
 obtain ⟨c0, c1, c2, c3, c4, c5, c6⟩ := OpAt.cells (x := x) o0
 have ol0 := o0.lt
 go_wp2_with fail
 refine (issue_any p s0 s1 s2 s3 s4 r x now _ _ _ _ S0 P0 (hU.below hA) hxs).mono ?_
 rintro e w1 ⟨hI, hb1⟩
 have B1 := hA.trans (hb1.mono hA.size)
 have P1 : RgAt w1 p r.id r.a r.b r.c av n cn := P0.below hb1
 have z1 : RgAt w1 z 0 0 0 0 none 0 0 := z0.below hb1
 have y1 : RowAt w1 y 13 (uq M1.zeroU) := RowAt.below y0 hb1
 clear c0 c1 c2 c3 c4 c5 c6 ol0 P0 z0 y0 o0
 rcases hI with ⟨k, rr, HC, k1, k5, he, hR⟩ | ⟨HC, q, v2, c2, he, hQ, mu⟩
 ·obtain ⟨u, hu⟩ : ∃ u, Hid (M1.zeroU = u) := ⟨_, rfl⟩
  have he2 : e = .returned (.tuple #[.pointer none, .agg #[.int .i64 u.dr, .int .i64 u.dn, .int .i64 u.sw, .int .i64 u.sc, .int .i64 u.sr, .int .i64 u.k, .int .i64 u.tr, .int .i64 u.id, .int .i64 u.pa, .string u.s, .int .i64 u.st, .int .i64 u.en, .int .i64 u.lv], .iface 126 (.pointer (some ⟨rr, 0, none⟩))]) := by rw [← hu.out]; exact he
  clear he
  subst he2
  have hA2 : Below w1.heap.size w1 (w1.alloc (.cells #[.int .i64 u.dr, .int .i64 u.dn, .int .i64 u.sw, .int .i64 u.sc, .int .i64 u.sr, .int .i64 u.k, .int .i64 u.tr, .int .i64 u.id, .int .i64 u.pa, .string u.s, .int .i64 u.st, .int .i64 u.en, .int .i64 u.lv] 38)) := (Below.refl _ _).alloc (Nat.le_refl _) _
  go_upto_region 2 with fail
  obtain ⟨W2, hW2⟩ : ∃ W, w1.alloc (.cells #[.int .i64 u.dr, .int .i64 u.dn, .int .i64 u.sw, .int .i64 u.sc, .int .i64 u.sr, .int .i64 u.k, .int .i64 u.tr, .int .i64 u.id, .int .i64 u.pa, .string u.s, .int .i64 u.st, .int .i64 u.en, .int .i64 u.lv] 38) = W := ⟨_, rfl⟩
  rw [hW2] at hA2 ⊢
  clear hW2
  have B2 := B1.trans (hA2.mono B1.size)
  have S2 := S.below B2
  have P2 : RgAt W2 p r.id r.a r.b r.c av n cn := P1.below hA2
  have z2 : RgAt W2 z 0 0 0 0 none 0 0 := z1.below hA2
  have y2 : RowAt W2 y 13 (uq M1.zeroU) := RowAt.below y1 hA2
  clear P1 z1 y1
  have hes := err_some W2 ⟨rr, 0, none⟩
  go_wp2_with fail
  by_cases hk1 : k = 1
  ·subst hk1
   have HQ : Hid (M1.isR r x now = M1.zeroR ∧ M1.isU r x now = M1.zeroU) := (by
    rcases M1.is_cases r x now with q | q | q
    ·exact ⟨q.2.2.1, q.2.2.2⟩
    ·have h9 := HC.out; rcases q.2.1 with q | q | q | q <;> rw [q] at h9 <;> cases h9
    ·have h9 := HC.out; rw [q.2.1] at h9; omega : _ ∧ _)
   have hR2 : Rfs W2 rr s0 none := hR.below hA2
   refine (leftBy_none rr _ s0 s1 s2 s3 s4 W2 S2 hR2).mono ?_
   rintro e w3 ⟨rfl, hb3⟩
   have B3 := B2.trans (hb3.mono B2.size)
   have S3 := S.below B3
   have z3 : RgAt w3 z 0 0 0 0 none 0 0 := z2.below hb3
   have y3 : RowAt w3 y 13 (uq M1.zeroU) := RowAt.below y2 hb3
   have hR3 : Rfs w3 rr s0 none := hR2.below hb3
   go_wp2_with fail
   refine (codeOf_any rr 1 s0 s1 s2 s3 s4 _ S3 (by omega) hR3.c0).mono ?_
   rintro e w4 ⟨rfl, rfl⟩
   obtain ⟨a0, a1, a2, a3, a4⟩ := z3.cells
   obtain ⟨b0, b1, b2, b3, b4⟩ := z3.frees
   have zl9 := z3.lt
   obtain ⟨ca0, ca1, ca2, ca3, ca4, ca5, ca6, ca7, ca8, ca9, ca10, ca11, ca12⟩ := uq_cells y3
   obtain ⟨fa0, fa1, fa2, fa3, fa4, fa5, fa6, fa7, fa8, fa9, fa10, fa11, fa12⟩ := uq_free y3
   have yl9 := y3.lt
   have zf : RgAt (((((w4.setCell ⟨z, 0, none⟩ (.int .i64 0)).setCell ⟨z, 1, none⟩ (.int .i64 0)).setCell ⟨z, 2, none⟩ (.int .i64 0)).setCell ⟨z, 3, none⟩ (.int .i64 0)).setCell ⟨z, 4, none⟩ (.slice none 0 0)) z 0 0 0 0 none 0 0 := z3.put 0 0 0 0 none 0 0
   have yf : RowAt (((((w4.setCell ⟨z, 0, none⟩ (.int .i64 0)).setCell ⟨z, 1, none⟩ (.int .i64 0)).setCell ⟨z, 2, none⟩ (.int .i64 0)).setCell ⟨z, 3, none⟩ (.int .i64 0)).setCell ⟨z, 4, none⟩ (.slice none 0 0)) y 13 (uq M1.zeroU) := far5 y3 hzy _ _ _ _ _
   have zz : RowAt ((((((((((((((((((w4.setCell ⟨z, 0, none⟩ (.int .i64 0)).setCell ⟨z, 1, none⟩ (.int .i64 0)).setCell ⟨z, 2, none⟩ (.int .i64 0)).setCell ⟨z, 3, none⟩ (.int .i64 0)).setCell ⟨z, 4, none⟩ (.slice none 0 0)).setCell ⟨y, 0, none⟩ (.int .i64 0)).setCell ⟨y, 1, none⟩ (.int .i64 0)).setCell ⟨y, 2, none⟩ (.int .i64 0)).setCell ⟨y, 3, none⟩ (.int .i64 0)).setCell ⟨y, 4, none⟩ (.int .i64 0)).setCell ⟨y, 5, none⟩ (.int .i64 0)).setCell ⟨y, 6, none⟩ (.int .i64 0)).setCell ⟨y, 7, none⟩ (.int .i64 0)).setCell ⟨y, 8, none⟩ (.int .i64 0)).setCell ⟨y, 9, none⟩ (.string ⟨#[]⟩)).setCell ⟨y, 10, none⟩ (.int .i64 0)).setCell ⟨y, 11, none⟩ (.int .i64 0)).setCell ⟨y, 12, none⟩ (.int .i64 0)) y 13 (uq M1.zeroU) := uq_put yf M1.zeroU
   have zr : RgAt ((((((((((((((((((w4.setCell ⟨z, 0, none⟩ (.int .i64 0)).setCell ⟨z, 1, none⟩ (.int .i64 0)).setCell ⟨z, 2, none⟩ (.int .i64 0)).setCell ⟨z, 3, none⟩ (.int .i64 0)).setCell ⟨z, 4, none⟩ (.slice none 0 0)).setCell ⟨y, 0, none⟩ (.int .i64 0)).setCell ⟨y, 1, none⟩ (.int .i64 0)).setCell ⟨y, 2, none⟩ (.int .i64 0)).setCell ⟨y, 3, none⟩ (.int .i64 0)).setCell ⟨y, 4, none⟩ (.int .i64 0)).setCell ⟨y, 5, none⟩ (.int .i64 0)).setCell ⟨y, 6, none⟩ (.int .i64 0)).setCell ⟨y, 7, none⟩ (.int .i64 0)).setCell ⟨y, 8, none⟩ (.int .i64 0)).setCell ⟨y, 9, none⟩ (.string ⟨#[]⟩)).setCell ⟨y, 10, none⟩ (.int .i64 0)).setCell ⟨y, 11, none⟩ (.int .i64 0)).setCell ⟨y, 12, none⟩ (.int .i64 0)) z 0 0 0 0 none 0 0 := far13 zf hyz M1.zeroU
   have BB : Below w.heap.size w ((((((((((((((((((w4.setCell ⟨z, 0, none⟩ (.int .i64 0)).setCell ⟨z, 1, none⟩ (.int .i64 0)).setCell ⟨z, 2, none⟩ (.int .i64 0)).setCell ⟨z, 3, none⟩ (.int .i64 0)).setCell ⟨z, 4, none⟩ (.slice none 0 0)).setCell ⟨y, 0, none⟩ (.int .i64 0)).setCell ⟨y, 1, none⟩ (.int .i64 0)).setCell ⟨y, 2, none⟩ (.int .i64 0)).setCell ⟨y, 3, none⟩ (.int .i64 0)).setCell ⟨y, 4, none⟩ (.int .i64 0)).setCell ⟨y, 5, none⟩ (.int .i64 0)).setCell ⟨y, 6, none⟩ (.int .i64 0)).setCell ⟨y, 7, none⟩ (.int .i64 0)).setCell ⟨y, 8, none⟩ (.int .i64 0)).setCell ⟨y, 9, none⟩ (.string ⟨#[]⟩)).setCell ⟨y, 10, none⟩ (.int .i64 0)).setCell ⟨y, 11, none⟩ (.int .i64 0)).setCell ⟨y, 12, none⟩ (.int .i64 0)) := bel_put (bel_put5 B3 hzw _ _ _ _ _) hyw M1.zeroU
   go_wp2_with fail
   clear a0 a1 a2 a3 a4 b0 b1 b2 b3 b4 ca0 ca1 ca2 ca3 ca4 ca5 ca6 ca7 ca8 ca9 ca10 ca11 ca12 fa0 fa1 fa2 fa3 fa4 fa5 fa6 fa7 fa8 fa9 fa10 fa11 fa12 zf yf
   obtain ⟨Wz, hWz⟩ : ∃ W, ((((((((((((((((((w4.setCell ⟨z, 0, none⟩ (.int .i64 0)).setCell ⟨z, 1, none⟩ (.int .i64 0)).setCell ⟨z, 2, none⟩ (.int .i64 0)).setCell ⟨z, 3, none⟩ (.int .i64 0)).setCell ⟨z, 4, none⟩ (.slice none 0 0)).setCell ⟨y, 0, none⟩ (.int .i64 0)).setCell ⟨y, 1, none⟩ (.int .i64 0)).setCell ⟨y, 2, none⟩ (.int .i64 0)).setCell ⟨y, 3, none⟩ (.int .i64 0)).setCell ⟨y, 4, none⟩ (.int .i64 0)).setCell ⟨y, 5, none⟩ (.int .i64 0)).setCell ⟨y, 6, none⟩ (.int .i64 0)).setCell ⟨y, 7, none⟩ (.int .i64 0)).setCell ⟨y, 8, none⟩ (.int .i64 0)).setCell ⟨y, 9, none⟩ (.string ⟨#[]⟩)).setCell ⟨y, 10, none⟩ (.int .i64 0)).setCell ⟨y, 11, none⟩ (.int .i64 0)).setCell ⟨y, 12, none⟩ (.int .i64 0)) = W := ⟨_, rfl⟩
   rw [hWz] at zz zr BB ⊢
   clear hWz
   obtain ⟨r0, r1, r2, r3, r4⟩ := zr.cells
   obtain ⟨va0, va1, va2, va3, va4, va5, va6, va7, va8, va9, va10, va11, va12⟩ := uq_cells zz
   unfold M1.zeroU at va0 va1 va2 va3 va4 va5 va6 va7 va8 va9 va10 va11 va12
   refine bodyPost_ret (v := .tuple #[.agg #[.int .i64 0, .int .i64 0, .int .i64 0, .int .i64 0, .slice none 0 0], .agg #[.int .i64 0, .int .i64 0, .int .i64 0, .int .i64 0, .int .i64 0, .int .i64 0, .int .i64 0, .int .i64 0, .int .i64 0, .string ByteArray.empty, .int .i64 0, .int .i64 0, .int .i64 0], .int .i64 1]) (by simp [results, Tryz.results10, go_sem, r0, r1, r2, r3, r4, va0, va1, va2, va3, va4, va5, va6, va7, va8, va9, va10, va11, va12]) rfl ?_
   exact ⟨⟨_, by rw [HC.out, HQ.out.2]; rfl, by rw [HQ.out.1]; exact ⟨none, 0, rfl, Nat.le_refl _, Nat.zero_le _, .inl ⟨rfl, rfl⟩⟩⟩, BB⟩
  ·have HQ : Hid (M1.rOk r = true ∧ M1.isR r x now = r ∧ M1.isU r x now = M1.zeroU) := (by
    rcases M1.is_cases r x now with q | q | q
    ·have h9 := HC.out; rw [q.2.1] at h9; exact absurd (by omega : k = 1) hk1
    ·exact ⟨q.1, q.2.2⟩
    ·have h9 := HC.out; rw [q.2.1] at h9; omega : _ ∧ _)
   have hsh := rOk_short HQ.out.1
   rw [hln.out] at hsh
   have hR2 : Rfs W2 rr (senAt s0 s1 s2 s3 s4 k) (some ⟨p, 0, none⟩) := by rw [if_neg hk1] at hR; exact hR.below hA2
   refine (leftBy_some rr p _ s0 s1 s2 s3 s4 r.id r.a r.b r.c _ _ _ r.us W2 S2 hR2 P2 (hU.below B2) hsh.1 hsh.2).mono ?_
   rintro e w3 ⟨⟨v3, c3, rfl, mu3⟩, hb3⟩
   have B3 := B2.trans (hb3.mono B2.size)
   have S3 := S.below B3
   have z3 : RgAt w3 z 0 0 0 0 none 0 0 := z2.below hb3
   have y3 : RowAt w3 y 13 (uq M1.zeroU) := RowAt.below y2 hb3
   have hR3 : Rfs w3 rr (senAt s0 s1 s2 s3 s4 k) (some ⟨p, 0, none⟩) := hR2.below hb3
   have hzl2 := z2.lt
   have hyl2 := y2.lt
   have hzq : ∀ q, v3 = some q → ¬ q.block = z := fun q hq => by
    rcases mu3.2.2 with ⟨_, e⟩ | ⟨g, e, h1, _, _⟩
    ·rw [e] at hq; cases hq
    ·rw [e] at hq; cases hq; show ¬ g = z; omega
   go_wp2_with fail
   refine (codeOf_any rr k s0 s1 s2 s3 s4 _ S3 (by omega) hR3.c0).mono ?_
   rintro e w4 ⟨rfl, rfl⟩
   obtain ⟨a0, a1, a2, a3, a4⟩ := z3.cells
   obtain ⟨b0, b1, b2, b3, b4⟩ := z3.frees
   have zl9 := z3.lt
   obtain ⟨ca0, ca1, ca2, ca3, ca4, ca5, ca6, ca7, ca8, ca9, ca10, ca11, ca12⟩ := uq_cells y3
   obtain ⟨fa0, fa1, fa2, fa3, fa4, fa5, fa6, fa7, fa8, fa9, fa10, fa11, fa12⟩ := uq_free y3
   have yl9 := y3.lt
   have zf : RgAt (((((w4.setCell ⟨z, 0, none⟩ (.int .i64 r.id)).setCell ⟨z, 1, none⟩ (.int .i64 r.a)).setCell ⟨z, 2, none⟩ (.int .i64 r.b)).setCell ⟨z, 3, none⟩ (.int .i64 r.c)).setCell ⟨z, 4, none⟩ (.slice v3 n c3)) z r.id r.a r.b r.c v3 n c3 := z3.put r.id r.a r.b r.c v3 n c3
   have yf : RowAt (((((w4.setCell ⟨z, 0, none⟩ (.int .i64 r.id)).setCell ⟨z, 1, none⟩ (.int .i64 r.a)).setCell ⟨z, 2, none⟩ (.int .i64 r.b)).setCell ⟨z, 3, none⟩ (.int .i64 r.c)).setCell ⟨z, 4, none⟩ (.slice v3 n c3)) y 13 (uq M1.zeroU) := far5 y3 hzy _ _ _ _ _
   have zz : RowAt ((((((((((((((((((w4.setCell ⟨z, 0, none⟩ (.int .i64 r.id)).setCell ⟨z, 1, none⟩ (.int .i64 r.a)).setCell ⟨z, 2, none⟩ (.int .i64 r.b)).setCell ⟨z, 3, none⟩ (.int .i64 r.c)).setCell ⟨z, 4, none⟩ (.slice v3 n c3)).setCell ⟨y, 0, none⟩ (.int .i64 0)).setCell ⟨y, 1, none⟩ (.int .i64 0)).setCell ⟨y, 2, none⟩ (.int .i64 0)).setCell ⟨y, 3, none⟩ (.int .i64 0)).setCell ⟨y, 4, none⟩ (.int .i64 0)).setCell ⟨y, 5, none⟩ (.int .i64 0)).setCell ⟨y, 6, none⟩ (.int .i64 0)).setCell ⟨y, 7, none⟩ (.int .i64 0)).setCell ⟨y, 8, none⟩ (.int .i64 0)).setCell ⟨y, 9, none⟩ (.string ⟨#[]⟩)).setCell ⟨y, 10, none⟩ (.int .i64 0)).setCell ⟨y, 11, none⟩ (.int .i64 0)).setCell ⟨y, 12, none⟩ (.int .i64 0)) y 13 (uq M1.zeroU) := uq_put yf M1.zeroU
   have zr : RgAt ((((((((((((((((((w4.setCell ⟨z, 0, none⟩ (.int .i64 r.id)).setCell ⟨z, 1, none⟩ (.int .i64 r.a)).setCell ⟨z, 2, none⟩ (.int .i64 r.b)).setCell ⟨z, 3, none⟩ (.int .i64 r.c)).setCell ⟨z, 4, none⟩ (.slice v3 n c3)).setCell ⟨y, 0, none⟩ (.int .i64 0)).setCell ⟨y, 1, none⟩ (.int .i64 0)).setCell ⟨y, 2, none⟩ (.int .i64 0)).setCell ⟨y, 3, none⟩ (.int .i64 0)).setCell ⟨y, 4, none⟩ (.int .i64 0)).setCell ⟨y, 5, none⟩ (.int .i64 0)).setCell ⟨y, 6, none⟩ (.int .i64 0)).setCell ⟨y, 7, none⟩ (.int .i64 0)).setCell ⟨y, 8, none⟩ (.int .i64 0)).setCell ⟨y, 9, none⟩ (.string ⟨#[]⟩)).setCell ⟨y, 10, none⟩ (.int .i64 0)).setCell ⟨y, 11, none⟩ (.int .i64 0)).setCell ⟨y, 12, none⟩ (.int .i64 0)) z r.id r.a r.b r.c v3 n c3 := far13 zf hyz M1.zeroU
   have BB : Below w.heap.size w ((((((((((((((((((w4.setCell ⟨z, 0, none⟩ (.int .i64 r.id)).setCell ⟨z, 1, none⟩ (.int .i64 r.a)).setCell ⟨z, 2, none⟩ (.int .i64 r.b)).setCell ⟨z, 3, none⟩ (.int .i64 r.c)).setCell ⟨z, 4, none⟩ (.slice v3 n c3)).setCell ⟨y, 0, none⟩ (.int .i64 0)).setCell ⟨y, 1, none⟩ (.int .i64 0)).setCell ⟨y, 2, none⟩ (.int .i64 0)).setCell ⟨y, 3, none⟩ (.int .i64 0)).setCell ⟨y, 4, none⟩ (.int .i64 0)).setCell ⟨y, 5, none⟩ (.int .i64 0)).setCell ⟨y, 6, none⟩ (.int .i64 0)).setCell ⟨y, 7, none⟩ (.int .i64 0)).setCell ⟨y, 8, none⟩ (.int .i64 0)).setCell ⟨y, 9, none⟩ (.string ⟨#[]⟩)).setCell ⟨y, 10, none⟩ (.int .i64 0)).setCell ⟨y, 11, none⟩ (.int .i64 0)).setCell ⟨y, 12, none⟩ (.int .i64 0)) := bel_put (bel_put5 B3 hzw _ _ _ _ _) hyw M1.zeroU
   have hm : MU ((((((((((((((((((w4.setCell ⟨z, 0, none⟩ (.int .i64 r.id)).setCell ⟨z, 1, none⟩ (.int .i64 r.a)).setCell ⟨z, 2, none⟩ (.int .i64 r.b)).setCell ⟨z, 3, none⟩ (.int .i64 r.c)).setCell ⟨z, 4, none⟩ (.slice v3 n c3)).setCell ⟨y, 0, none⟩ (.int .i64 0)).setCell ⟨y, 1, none⟩ (.int .i64 0)).setCell ⟨y, 2, none⟩ (.int .i64 0)).setCell ⟨y, 3, none⟩ (.int .i64 0)).setCell ⟨y, 4, none⟩ (.int .i64 0)).setCell ⟨y, 5, none⟩ (.int .i64 0)).setCell ⟨y, 6, none⟩ (.int .i64 0)).setCell ⟨y, 7, none⟩ (.int .i64 0)).setCell ⟨y, 8, none⟩ (.int .i64 0)).setCell ⟨y, 9, none⟩ (.string ⟨#[]⟩)).setCell ⟨y, 10, none⟩ (.int .i64 0)).setCell ⟨y, 11, none⟩ (.int .i64 0)).setCell ⟨y, 12, none⟩ (.int .i64 0)) v3 n c3 W2.heap.size ((((((((((((((((((w4.setCell ⟨z, 0, none⟩ (.int .i64 r.id)).setCell ⟨z, 1, none⟩ (.int .i64 r.a)).setCell ⟨z, 2, none⟩ (.int .i64 r.b)).setCell ⟨z, 3, none⟩ (.int .i64 r.c)).setCell ⟨z, 4, none⟩ (.slice v3 n c3)).setCell ⟨y, 0, none⟩ (.int .i64 0)).setCell ⟨y, 1, none⟩ (.int .i64 0)).setCell ⟨y, 2, none⟩ (.int .i64 0)).setCell ⟨y, 3, none⟩ (.int .i64 0)).setCell ⟨y, 4, none⟩ (.int .i64 0)).setCell ⟨y, 5, none⟩ (.int .i64 0)).setCell ⟨y, 6, none⟩ (.int .i64 0)).setCell ⟨y, 7, none⟩ (.int .i64 0)).setCell ⟨y, 8, none⟩ (.int .i64 0)).setCell ⟨y, 9, none⟩ (.string ⟨#[]⟩)).setCell ⟨y, 10, none⟩ (.int .i64 0)).setCell ⟨y, 11, none⟩ (.int .i64 0)).setCell ⟨y, 12, none⟩ (.int .i64 0)).heap.size (ucell r.us) := mu_both mu3 hzq hyl2 _ _ _ _ _ M1.zeroU
   have hs2 := B2.size
   go_wp2_with fail
   clear a0 a1 a2 a3 a4 b0 b1 b2 b3 b4 ca0 ca1 ca2 ca3 ca4 ca5 ca6 ca7 ca8 ca9 ca10 ca11 ca12 fa0 fa1 fa2 fa3 fa4 fa5 fa6 fa7 fa8 fa9 fa10 fa11 fa12 zf yf
   obtain ⟨Wz, hWz⟩ : ∃ W, ((((((((((((((((((w4.setCell ⟨z, 0, none⟩ (.int .i64 r.id)).setCell ⟨z, 1, none⟩ (.int .i64 r.a)).setCell ⟨z, 2, none⟩ (.int .i64 r.b)).setCell ⟨z, 3, none⟩ (.int .i64 r.c)).setCell ⟨z, 4, none⟩ (.slice v3 n c3)).setCell ⟨y, 0, none⟩ (.int .i64 0)).setCell ⟨y, 1, none⟩ (.int .i64 0)).setCell ⟨y, 2, none⟩ (.int .i64 0)).setCell ⟨y, 3, none⟩ (.int .i64 0)).setCell ⟨y, 4, none⟩ (.int .i64 0)).setCell ⟨y, 5, none⟩ (.int .i64 0)).setCell ⟨y, 6, none⟩ (.int .i64 0)).setCell ⟨y, 7, none⟩ (.int .i64 0)).setCell ⟨y, 8, none⟩ (.int .i64 0)).setCell ⟨y, 9, none⟩ (.string ⟨#[]⟩)).setCell ⟨y, 10, none⟩ (.int .i64 0)).setCell ⟨y, 11, none⟩ (.int .i64 0)).setCell ⟨y, 12, none⟩ (.int .i64 0)) = W := ⟨_, rfl⟩
   rw [hWz] at zz zr BB hm ⊢
   clear hWz
   obtain ⟨r0, r1, r2, r3, r4⟩ := zr.cells
   obtain ⟨va0, va1, va2, va3, va4, va5, va6, va7, va8, va9, va10, va11, va12⟩ := uq_cells zz
   unfold M1.zeroU at va0 va1 va2 va3 va4 va5 va6 va7 va8 va9 va10 va11 va12
   refine bodyPost_ret (v := .tuple #[.agg #[.int .i64 r.id, .int .i64 r.a, .int .i64 r.b, .int .i64 r.c, .slice v3 n c3], .agg #[.int .i64 0, .int .i64 0, .int .i64 0, .int .i64 0, .int .i64 0, .int .i64 0, .int .i64 0, .int .i64 0, .int .i64 0, .string ByteArray.empty, .int .i64 0, .int .i64 0, .int .i64 0], .int .i64 (k : Int)]) (by simp [results, Tryz.results10, go_sem, r0, r1, r2, r3, r4, va0, va1, va2, va3, va4, va5, va6, va7, va8, va9, va10, va11, va12]) rfl ?_
   exact ⟨⟨_, by rw [HC.out, HQ.out.2.2]; rfl, by rw [HQ.out.2.1]; exact ⟨v3, c3, by rw [hln.out], by rw [hln.out]; exact mu_low hm (by omega)⟩⟩, BB⟩
 ·have HQ : Hid (M1.isR r x now = M1.isN r x now ∧ M1.isU r x now = M1.nuU r x now ∧ M1.tOk r.us [M1.nuU r x now] = true ∧ M1.rOk r = true) := (by
   rcases M1.is_cases r x now with q | q | q
   ·have h9 := HC.out; rw [q.2.1] at h9; cases h9
   ·have h9 := HC.out; rcases q.2.1 with q | q | q | q <;> rw [q] at h9 <;> cases h9
   ·exact ⟨q.2.2.1, q.2.2.2.1, q.2.2.2.2, q.1⟩ : _ ∧ _)
  have hus := M1.nu_txt HQ.out.2.2.1
  have HN : Hid (M1.isN r x now = ⟨r.id, (M1.tk r now).a, (M1.tk r now).b, (M1.tk r now).c, M1.tL r.us [M1.nuU r x now]⟩) := (by unfold M1.isN; rw [(M1.nu_set HQ.out.2.2.2).2 HQ.out.2.2.1] : _ = _)
  obtain ⟨u, hu⟩ : ∃ u, Hid (M1.nuU r x now = u) := ⟨_, rfl⟩
  rw [hu.out] at he hQ mu hus HN HQ
  obtain ⟨T, hT⟩ : ∃ T, Hid (M1.tL r.us [u] = T) := ⟨_, rfl⟩
  obtain ⟨t, ht⟩ : ∃ t, Hid (M1.tk r now = t) := ⟨_, rfl⟩
  rw [ht.out, hT.out] at hQ HN
  rw [hT.out] at mu
  subst he
  have hA2 : Below w1.heap.size w1 (w1.alloc (.cells #[.int .i64 u.dr, .int .i64 u.dn, .int .i64 u.sw, .int .i64 u.sc, .int .i64 u.sr, .int .i64 u.k, .int .i64 u.tr, .int .i64 u.id, .int .i64 u.pa, .string u.s, .int .i64 u.st, .int .i64 u.en, .int .i64 u.lv] 38)) := (Below.refl _ _).alloc (Nat.le_refl _) _
  have u2 := uq_new w1 u 38
  go_upto_region 2 with fail
  obtain ⟨W2, hW2⟩ : ∃ W, w1.alloc (.cells #[.int .i64 u.dr, .int .i64 u.dn, .int .i64 u.sw, .int .i64 u.sc, .int .i64 u.sr, .int .i64 u.k, .int .i64 u.tr, .int .i64 u.id, .int .i64 u.pa, .string u.s, .int .i64 u.st, .int .i64 u.en, .int .i64 u.lv] 38) = W := ⟨_, rfl⟩
  rw [hW2] at hA2 u2 ⊢
  clear hW2
  have hs1 := hb1.size
  obtain ⟨ub, hub⟩ : ∃ b, Hid (w1.heap.size = b) := ⟨_, rfl⟩
  have hzub : ¬ z = ub := by have := hub.out; omega
  have hyub : ¬ y = ub := by have := hub.out; omega
  rw [hub.out] at u2 ⊢
  have B2 := B1.trans (hA2.mono B1.size)
  have Q2 : RgAt W2 q r.id t.a t.b t.c v2 T.length c2 := hQ.below hA2
  have z2 : RgAt W2 z 0 0 0 0 none 0 0 := z1.below hA2
  have y2 : RowAt W2 y 13 (uq M1.zeroU) := RowAt.below y1 hA2
  have mu2 := mu.below hA2
  clear P1 z1 y1 hQ mu
  have hid := (M1.inB_true (M1.rOk_all HQ.out.2.2.2).1).1
  have hqz : ¬ z = q := fun e => by
   have h1 := z2.cells.1
   rw [e, Q2.cells.1] at h1
   have h9 : r.id = 0 := by simpa using h1
   omega
  have hqy : ¬ y = q := fun e => by
   have h1 := (uq_cells y2).1
   rw [e, Q2.cells.1] at h1
   have h9 : r.id = 0 := by simpa [M1.zeroU] using h1
   omega
  have hes := err_none W2
  have hs2 := B2.size
  have hs0 := hA.size
  go_wp2_with fail
  refine wp_region_held_drew (S := fun w' => RgAt w' q r.id t.a t.b t.c v2 T.length c2 ∧ RowAt w' ub 13 (uq u)) (by kernel_rfl) ?_ (fun hHeld => ?_)
  ·exact ⟨RowAt.drew Q2, u2.drew⟩
  refine tZ (i:=0) (v:=?_) rfl (.inl ⟨by rfl, ?_⟩) hHeld ?_
  rotate_left
  ·(intro w hSw; (try dsimp only at hSw); go_simp; try (with_reducible rfl))
  (try simp only [Act.put, zZ])
  refine tZ (i:=1) (v:=.pointer (some ⟨q, 0, none⟩)) rfl (.inl ⟨by rfl, ?_⟩) hHeld ?_
  ·(intro w hSw; (try dsimp only at hSw); go_simp; skip)
  (try simp only [Act.put, zZ])
  refine tZ (i:=2) (v:=.agg #[.int .i64 r.id, .int .i64 t.a, .int .i64 t.b, .int .i64 t.c, .slice v2 T.length c2]) rfl (.inl ⟨by rfl, ?_⟩) hHeld ?_
  ·(intro w hSw; (try dsimp only at hSw); go_simp; (obtain ⟨h0, h1, h2, h3, h4⟩ := RgAt.cells hSw.1; simp [go_sem, h0, h1, h2, h3, h4]))
  (try simp only [Act.put, zZ])
  refine tZ (i:=3) (v:=.agg #[.int .i64 u.dr, .int .i64 u.dn, .int .i64 u.sw, .int .i64 u.sc, .int .i64 u.sr, .int .i64 u.k, .int .i64 u.tr, .int .i64 u.id, .int .i64 u.pa, .string u.s, .int .i64 u.st, .int .i64 u.en, .int .i64 u.lv]) rfl (.inl ⟨by rfl, ?_⟩) hHeld ?_
  ·(intro w hSw; (try dsimp only at hSw); go_simp; (obtain ⟨ca0, ca1, ca2, ca3, ca4, ca5, ca6, ca7, ca8, ca9, ca10, ca11, ca12⟩ := uq_cells hSw.2; simp [go_sem, ca0, ca1, ca2, ca3, ca4, ca5, ca6, ca7, ca8, ca9, ca10, ca11, ca12]))
  (try simp only [Act.put, zZ])
  refine wpAnyH_ready (rs := [4]) (by kernel_rfl) (by simp) ?_
  refine AllReadyH.cons (o := _) rfl (fun K hK => ?_) AllReadyH.nil
  go_simp
  (refine (copyOf_any u _ hus).mono ?_; rintro e w3 ⟨rfl, hb3⟩; go_wp2_with fail)
  refine hK.out _ _ ?_ (fun hHeld2 => ?_)
  ·exact ⟨hHeld.1.below hb3, RowAt.below hHeld.2 hb3⟩
  clear hK K hHeld
  have hHeld := hHeld2
  clear hHeld2
  (try simp only [Act.put, zZ])
  have b23 : Below W2.heap.size W2 w3 := (Below.refl _ W2).drew.trans hb3
  have B3 := B2.trans (b23.mono B2.size)
  have z3 : RgAt w3 z 0 0 0 0 none 0 0 := z2.below b23
  have y3 : RowAt w3 y 13 (uq M1.zeroU) := RowAt.below y2 b23
  have mu3 := mu_high (mu2.below b23) (by have := b23.size; have := hA2.size; omega : _ ≤ w3.heap.size)
  have hzq : ∀ q, v2 = some q → ¬ q.block = z := fun q hq => by
   rcases mu3.2.2 with ⟨_, e⟩ | ⟨g, e, h1, _, _⟩
   ·rw [e] at hq; cases hq
   ·rw [e] at hq; cases hq; show ¬ g = z; omega
  obtain ⟨a0, a1, a2, a3, a4⟩ := z3.cells
  obtain ⟨b0, b1, b2, b3, b4⟩ := z3.frees
  have zl9 := z3.lt
  refine wpAnyH_ready (rs := [5]) (by kernel_rfl) (by simp) ?_
  refine AllReadyH.cons (o := _) rfl (fun K hK => ?_) AllReadyH.nil
  go_simp
  skip
  refine hK.out _ _ ?_ (fun hHeld2 => ?_)
  ·exact ⟨far5 hHeld.1 hqz _ _ _ _ _, far5 hHeld.2 hzub _ _ _ _ _⟩
  clear hK K hHeld
  have hHeld := hHeld2
  clear hHeld2
  (try simp only [Act.put, zZ])
  have z4 : RgAt (((((w3.setCell ⟨z, 0, none⟩ (.int .i64 r.id)).setCell ⟨z, 1, none⟩ (.int .i64 t.a)).setCell ⟨z, 2, none⟩ (.int .i64 t.b)).setCell ⟨z, 3, none⟩ (.int .i64 t.c)).setCell ⟨z, 4, none⟩ (.slice v2 T.length c2)) z r.id t.a t.b t.c v2 T.length c2 := z3.put r.id t.a t.b t.c v2 T.length c2
  have y4 : RowAt (((((w3.setCell ⟨z, 0, none⟩ (.int .i64 r.id)).setCell ⟨z, 1, none⟩ (.int .i64 t.a)).setCell ⟨z, 2, none⟩ (.int .i64 t.b)).setCell ⟨z, 3, none⟩ (.int .i64 t.c)).setCell ⟨z, 4, none⟩ (.slice v2 T.length c2)) y 13 (uq M1.zeroU) := far5 y3 hzy _ _ _ _ _
  have B4 : Below w.heap.size w (((((w3.setCell ⟨z, 0, none⟩ (.int .i64 r.id)).setCell ⟨z, 1, none⟩ (.int .i64 t.a)).setCell ⟨z, 2, none⟩ (.int .i64 t.b)).setCell ⟨z, 3, none⟩ (.int .i64 t.c)).setCell ⟨z, 4, none⟩ (.slice v2 T.length c2)) := bel_put5 B3 hzw _ _ _ _ _
  have mu4 : MU (((((w3.setCell ⟨z, 0, none⟩ (.int .i64 r.id)).setCell ⟨z, 1, none⟩ (.int .i64 t.a)).setCell ⟨z, 2, none⟩ (.int .i64 t.b)).setCell ⟨z, 3, none⟩ (.int .i64 t.c)).setCell ⟨z, 4, none⟩ (.slice v2 T.length c2)) v2 T.length c2 W0.heap.size (((((w3.setCell ⟨z, 0, none⟩ (.int .i64 r.id)).setCell ⟨z, 1, none⟩ (.int .i64 t.a)).setCell ⟨z, 2, none⟩ (.int .i64 t.b)).setCell ⟨z, 3, none⟩ (.int .i64 t.c)).setCell ⟨z, 4, none⟩ (.slice v2 T.length c2)).heap.size (ucell T) := mu_put5 mu3 hzq _ _ _ _ _
  clear a0 a1 a2 a3 a4 b0 b1 b2 b3 b4
  obtain ⟨w4, hw4⟩ : ∃ W, (((((w3.setCell ⟨z, 0, none⟩ (.int .i64 r.id)).setCell ⟨z, 1, none⟩ (.int .i64 t.a)).setCell ⟨z, 2, none⟩ (.int .i64 t.b)).setCell ⟨z, 3, none⟩ (.int .i64 t.c)).setCell ⟨z, 4, none⟩ (.slice v2 T.length c2)) = W := ⟨_, rfl⟩
  rw [hw4] at hHeld z4 y4 B4 mu4 ⊢
  clear hw4
  obtain ⟨ca0, ca1, ca2, ca3, ca4, ca5, ca6, ca7, ca8, ca9, ca10, ca11, ca12⟩ := uq_cells y4
  obtain ⟨fa0, fa1, fa2, fa3, fa4, fa5, fa6, fa7, fa8, fa9, fa10, fa11, fa12⟩ := uq_free y4
  have yl9 := y4.lt
  refine wpAnyH_ready (rs := [6]) (by kernel_rfl) (by simp) ?_
  refine AllReadyH.cons (o := _) rfl (fun K hK => ?_) AllReadyH.nil
  go_simp
  skip
  refine hK.out _ _ ?_ (fun hHeld2 => ?_)
  ·exact ⟨far13 hHeld.1 hqy u, far13 hHeld.2 hyub u⟩
  clear hK K hHeld
  have hHeld := hHeld2
  clear hHeld2
  (try simp only [Act.put, zZ])
  refine tZ (i:=7) (v:=?_) rfl (.inl ⟨by rfl, ?_⟩) hHeld ?_
  rotate_left
  ·(intro w hSw; (try dsimp only at hSw); go_simp; try (with_reducible rfl))
  (try simp only [Act.put, zZ])
  refine wpAnyH_done (by kernel_rfl) ?_ _
  have zz : RowAt (((((((((((((w4.setCell ⟨y, 0, none⟩ (.int .i64 u.dr)).setCell ⟨y, 1, none⟩ (.int .i64 u.dn)).setCell ⟨y, 2, none⟩ (.int .i64 u.sw)).setCell ⟨y, 3, none⟩ (.int .i64 u.sc)).setCell ⟨y, 4, none⟩ (.int .i64 u.sr)).setCell ⟨y, 5, none⟩ (.int .i64 u.k)).setCell ⟨y, 6, none⟩ (.int .i64 u.tr)).setCell ⟨y, 7, none⟩ (.int .i64 u.id)).setCell ⟨y, 8, none⟩ (.int .i64 u.pa)).setCell ⟨y, 9, none⟩ (.string u.s)).setCell ⟨y, 10, none⟩ (.int .i64 u.st)).setCell ⟨y, 11, none⟩ (.int .i64 u.en)).setCell ⟨y, 12, none⟩ (.int .i64 u.lv)) y 13 (uq u) := uq_put y4 u
  have zr : RgAt (((((((((((((w4.setCell ⟨y, 0, none⟩ (.int .i64 u.dr)).setCell ⟨y, 1, none⟩ (.int .i64 u.dn)).setCell ⟨y, 2, none⟩ (.int .i64 u.sw)).setCell ⟨y, 3, none⟩ (.int .i64 u.sc)).setCell ⟨y, 4, none⟩ (.int .i64 u.sr)).setCell ⟨y, 5, none⟩ (.int .i64 u.k)).setCell ⟨y, 6, none⟩ (.int .i64 u.tr)).setCell ⟨y, 7, none⟩ (.int .i64 u.id)).setCell ⟨y, 8, none⟩ (.int .i64 u.pa)).setCell ⟨y, 9, none⟩ (.string u.s)).setCell ⟨y, 10, none⟩ (.int .i64 u.st)).setCell ⟨y, 11, none⟩ (.int .i64 u.en)).setCell ⟨y, 12, none⟩ (.int .i64 u.lv)) z r.id t.a t.b t.c v2 T.length c2 := far13 z4 hyz u
  have BB : Below w.heap.size w (((((((((((((w4.setCell ⟨y, 0, none⟩ (.int .i64 u.dr)).setCell ⟨y, 1, none⟩ (.int .i64 u.dn)).setCell ⟨y, 2, none⟩ (.int .i64 u.sw)).setCell ⟨y, 3, none⟩ (.int .i64 u.sc)).setCell ⟨y, 4, none⟩ (.int .i64 u.sr)).setCell ⟨y, 5, none⟩ (.int .i64 u.k)).setCell ⟨y, 6, none⟩ (.int .i64 u.tr)).setCell ⟨y, 7, none⟩ (.int .i64 u.id)).setCell ⟨y, 8, none⟩ (.int .i64 u.pa)).setCell ⟨y, 9, none⟩ (.string u.s)).setCell ⟨y, 10, none⟩ (.int .i64 u.st)).setCell ⟨y, 11, none⟩ (.int .i64 u.en)).setCell ⟨y, 12, none⟩ (.int .i64 u.lv)) := bel_put B4 hyw u
  have hm : MU (((((((((((((w4.setCell ⟨y, 0, none⟩ (.int .i64 u.dr)).setCell ⟨y, 1, none⟩ (.int .i64 u.dn)).setCell ⟨y, 2, none⟩ (.int .i64 u.sw)).setCell ⟨y, 3, none⟩ (.int .i64 u.sc)).setCell ⟨y, 4, none⟩ (.int .i64 u.sr)).setCell ⟨y, 5, none⟩ (.int .i64 u.k)).setCell ⟨y, 6, none⟩ (.int .i64 u.tr)).setCell ⟨y, 7, none⟩ (.int .i64 u.id)).setCell ⟨y, 8, none⟩ (.int .i64 u.pa)).setCell ⟨y, 9, none⟩ (.string u.s)).setCell ⟨y, 10, none⟩ (.int .i64 u.st)).setCell ⟨y, 11, none⟩ (.int .i64 u.en)).setCell ⟨y, 12, none⟩ (.int .i64 u.lv)) v2 T.length c2 W0.heap.size (((((((((((((w4.setCell ⟨y, 0, none⟩ (.int .i64 u.dr)).setCell ⟨y, 1, none⟩ (.int .i64 u.dn)).setCell ⟨y, 2, none⟩ (.int .i64 u.sw)).setCell ⟨y, 3, none⟩ (.int .i64 u.sc)).setCell ⟨y, 4, none⟩ (.int .i64 u.sr)).setCell ⟨y, 5, none⟩ (.int .i64 u.k)).setCell ⟨y, 6, none⟩ (.int .i64 u.tr)).setCell ⟨y, 7, none⟩ (.int .i64 u.id)).setCell ⟨y, 8, none⟩ (.int .i64 u.pa)).setCell ⟨y, 9, none⟩ (.string u.s)).setCell ⟨y, 10, none⟩ (.int .i64 u.st)).setCell ⟨y, 11, none⟩ (.int .i64 u.en)).setCell ⟨y, 12, none⟩ (.int .i64 u.lv)).heap.size (ucell T) := mu_high (mu_put13 mu4 yl0 u) (sz13 w4 y u)
  clear hHeld ca0 ca1 ca2 ca3 ca4 ca5 ca6 ca7 ca8 ca9 ca10 ca11 ca12 fa0 fa1 fa2 fa3 fa4 fa5 fa6 fa7 fa8 fa9 fa10 fa11 fa12
  go_wp2_with fail
  obtain ⟨Wz, hWz⟩ : ∃ W, (((((((((((((w4.setCell ⟨y, 0, none⟩ (.int .i64 u.dr)).setCell ⟨y, 1, none⟩ (.int .i64 u.dn)).setCell ⟨y, 2, none⟩ (.int .i64 u.sw)).setCell ⟨y, 3, none⟩ (.int .i64 u.sc)).setCell ⟨y, 4, none⟩ (.int .i64 u.sr)).setCell ⟨y, 5, none⟩ (.int .i64 u.k)).setCell ⟨y, 6, none⟩ (.int .i64 u.tr)).setCell ⟨y, 7, none⟩ (.int .i64 u.id)).setCell ⟨y, 8, none⟩ (.int .i64 u.pa)).setCell ⟨y, 9, none⟩ (.string u.s)).setCell ⟨y, 10, none⟩ (.int .i64 u.st)).setCell ⟨y, 11, none⟩ (.int .i64 u.en)).setCell ⟨y, 12, none⟩ (.int .i64 u.lv)) = W := ⟨_, rfl⟩
  rw [hWz] at zz zr BB hm ⊢
  clear hWz
  obtain ⟨r0, r1, r2, r3, r4⟩ := zr.cells
  obtain ⟨va0, va1, va2, va3, va4, va5, va6, va7, va8, va9, va10, va11, va12⟩ := uq_cells zz
  refine bodyPost_ret (v := .tuple #[.agg #[.int .i64 r.id, .int .i64 t.a, .int .i64 t.b, .int .i64 t.c, .slice v2 T.length c2], .agg #[.int .i64 u.dr, .int .i64 u.dn, .int .i64 u.sw, .int .i64 u.sc, .int .i64 u.sr, .int .i64 u.k, .int .i64 u.tr, .int .i64 u.id, .int .i64 u.pa, .string u.s, .int .i64 u.st, .int .i64 u.en, .int .i64 u.lv], .int .i64 0]) (by simp [results, Tryz.results10, go_sem, r0, r1, r2, r3, r4, va0, va1, va2, va3, va4, va5, va6, va7, va8, va9, va10, va11, va12]) rfl ?_
  exact ⟨⟨_, by rw [HC.out, HQ.out.2.1], by rw [HQ.out.1, HN.out]; exact ⟨v2, c2, rfl, mu_low hm hs0⟩⟩, BB⟩

end Go.Proofs.YtccendmoeelniaaGreatDoor
