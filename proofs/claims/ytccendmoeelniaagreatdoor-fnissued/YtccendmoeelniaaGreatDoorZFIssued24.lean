/-
  Texts of one proof, joined: Lf1.
-/
import Derived.Test.YtccendmoeelniaaGreatDoorZFIssued22
import Derived.Test.YtccendmoeelniaaGreatDoorZFIssued03
import Derived.Test.YtccendmoeelniaaGreatDoorZFIssued04
import Derived.Test.YtccendmoeelniaaGreatDoorZFIssued10
import Derived.Test.YtccendmoeelniaaGreatDoorZFIssued08
import Derived.Test.YtccendmoeelniaaGreatDoorZFIssued23
namespace Go.Proofs.YtccendmoeelniaaGreatDoor
open Go.ChangeShapes Go.WideShapes Go.ChangeAt Go.RowKit
set_option linter.unusedSimpArgs false
set_option linter.unusedVariables false
abbrev RgAt (w : World) (p : Nat) (id a b c : Int) (av : Option Addr) (n cn : Nat) : Prop := RowAt w p 5 (fun o => [.int .i64 id, .int .i64 a, .int .i64 b, .int .i64 c, .slice av n cn].getD o undef)

theorem rg_new (w : World) (id a b c : Int) (av : Option Addr) (n cn : Nat) (t : TypeId) : RgAt (w.alloc (.cells #[.int .i64 id, .int .i64 a, .int .i64 b, .int .i64 c, .slice av n cn] t)) w.heap.size id a b c av n cn :=
 (RowAt.new w #[.int .i64 id, .int .i64 a, .int .i64 b, .int .i64 c, .slice av n cn] t).same fun o ho => by
  match o, ho with
  | 0, _ => rfl
  | 1, _ => rfl
  | 2, _ => rfl
  | 3, _ => rfl
  | 4, _ => rfl

theorem RgAt.cells {w : World} {p : Nat} {id a b c : Int} {av : Option Addr} {n cn : Nat} (h : RgAt w p id a b c av n cn) : w.cell? ⟨p, 0, none⟩ = some (.int .i64 id) ∧ w.cell? ⟨p, 1, none⟩ = some (.int .i64 a) ∧ w.cell? ⟨p, 2, none⟩ = some (.int .i64 b) ∧ w.cell? ⟨p, 3, none⟩ = some (.int .i64 c) ∧ w.cell? ⟨p, 4, none⟩ = some (.slice av n cn) := ⟨h.cell (o := 0) (by omega), h.cell (o := 1) (by omega), h.cell (o := 2) (by omega), h.cell (o := 3) (by omega), h.cell (o := 4) (by omega)⟩

theorem RgAt.frees {w : World} {p : Nat} {id a b c : Int} {av : Option Addr} {n cn : Nat} (h : RgAt w p id a b c av n cn) : w.frozen? ⟨p, 0, none⟩ = false ∧ w.frozen? ⟨p, 1, none⟩ = false ∧ w.frozen? ⟨p, 2, none⟩ = false ∧ w.frozen? ⟨p, 3, none⟩ = false ∧ w.frozen? ⟨p, 4, none⟩ = false := ⟨h.free (o := 0) (by omega), h.free (o := 1) (by omega), h.free (o := 2) (by omega), h.free (o := 3) (by omega), h.free (o := 4) (by omega)⟩

theorem RgAt.put {w : World} {p : Nat} {id a b c : Int} {av : Option Addr} {n cn : Nat} (h : RgAt w p id a b c av n cn) (id2 a2 b2 c2 : Int) (v2 : Option Addr) (n2 m2 : Nat) : RgAt (((((w.setCell ⟨p, 0, none⟩ (.int .i64 id2)).setCell ⟨p, 1, none⟩ (.int .i64 a2)).setCell ⟨p, 2, none⟩ (.int .i64 b2)).setCell ⟨p, 3, none⟩ (.int .i64 c2)).setCell ⟨p, 4, none⟩ (.slice v2 n2 m2)) p id2 a2 b2 c2 v2 n2 m2 :=
 RowAt.same (((((h.set (o := 0) (by omega) (.int .i64 id2)).set (o := 1) (by omega) (.int .i64 a2)).set (o := 2) (by omega) (.int .i64 b2)).set (o := 3) (by omega) (.int .i64 c2)).set (o := 4) (by omega) (.slice v2 n2 m2)) fun o ho => by
  match o, ho with
  | 0, _ => rfl
  | 1, _ => rfl
  | 2, _ => rfl
  | 3, _ => rfl
  | 4, _ => rfl

theorem bel_put5 {a w : World} {B r : Nat} (h : Below B a w) (hr : B ≤ r) (v0 v1 v2 v3 v4 : Value) : Below B a (((((w.setCell ⟨r, 0, none⟩ v0).setCell ⟨r, 1, none⟩ v1).setCell ⟨r, 2, none⟩ v2).setCell ⟨r, 3, none⟩ v3).setCell ⟨r, 4, none⟩ v4) :=
 ((((h.setCell (p := ⟨r, 0, none⟩) hr _).setCell (p := ⟨r, 1, none⟩) hr _).setCell (p := ⟨r, 2, none⟩) hr _).setCell (p := ⟨r, 3, none⟩) hr _).setCell (p := ⟨r, 4, none⟩) hr _

theorem Rfs.c0 {w : World} {r : Nat} {s : Addr} {l : Option Addr} (h : Rfs w r s l) : w.cell? ⟨r, 0, none⟩ = some (es s) := h.cell (o := 0) (by omega)

theorem Rfs.c1 {w : World} {r : Nat} {s : Addr} {l : Option Addr} (h : Rfs w r s l) : w.cell? ⟨r, 1, none⟩ = some (.pointer l) := h.cell (o := 1) (by omega)

theorem ptr_nil (w : World) (a : Addr) : (binOp .eql 80 (.pointer (some a)) (.pointer none)).run Tryz.prog w = .ok (.bool false) w := by kernel_rfl

theorem row_block {w w' : World} {g m : Nat} {f : Nat → Value} (h : RowAt w g m f) (hb : w'.heap[g]? = w.heap[g]?) (hs : w.heap.size ≤ w'.heap.size) : RowAt w' g m f :=
 ⟨Nat.lt_of_lt_of_le h.1 hs, fun o ho => ⟨(World.cell?_of_block (w := w) hb).trans (h.2 o ho).1, (World.frozen?_of_block (w := w) hb).trans (h.2 o ho).2⟩⟩

theorem owns_off {w : World} {base : Nat} {e : TypeId} {size n : Nat} {v : Value} {xs : List Value} (h : w.ownsRow base e size v n xs) : ∀ j, v.ownBlock = some j → base ≤ j := owns_base h

theorem owns_old {w : World} {base : Nat} {e : TypeId} {size n : Nat} {v : Value} {xs : List Value} (h : w.ownsRow base e size v n xs) : ¬ v.ownBlock = some w.heap.size := fun q => by
 rcases h.2 with ⟨rfl, _⟩ | ⟨g, cap, cur, rfl, _, hh, _⟩
 ·simp [Value.ownBlock] at q
 ·have e : g = w.heap.size := by simpa [Value.ownBlock] using q
  rw [e, Array.getElem?_eq_none (Nat.le_refl _)] at hh
  cases hh

theorem owns_set {w : World} {base : Nat} {e : TypeId} {size n : Nat} {v : Value} {xs : List Value} (h : w.ownsRow base e size v n xs) {p : Addr} (hp : p.block < base) (u : Value) : (w.setCell p u).ownsRow base e size v n xs :=
 ⟨h.1, h.2.imp id fun ⟨k, cp, cur, hv, hk, hh, r⟩ => ⟨k, cp, cur, hv, hk, by rw [Below.heap_setCell _ _ _ _ (by omega)]; exact hh, r⟩⟩

theorem rg_set {w : World} {p : Nat} {id a b c : Int} {av : Option Addr} {n cn : Nat} (h : RgAt w p id a b c av n cn) (v2 : Option Addr) (n2 m2 : Nat) : RgAt (w.setCell ⟨p, 4, none⟩ (.slice v2 n2 m2)) p id a b c v2 n2 m2 :=
 RowAt.same (h.set (o := 4) (by omega) (.slice v2 n2 m2)) fun o ho => by
  match o, ho with
  | 0, _ => rfl
  | 1, _ => rfl
  | 2, _ => rfl
  | 3, _ => rfl
  | 4, _ => rfl

theorem take_snocU {us : List M1.Upd} {j : Nat} (h : j < us.length) : us.take (j + 1) = us.take j ++ [M1.up us j] := by
 rw [List.take_succ_eq_append_getElem h]
 unfold M1.up
 rw [List.getD_eq_getElem?_getD, List.getElem?_eq_getElem h]; rfl

theorem mu_far {w : World} {av : Option Addr} {n cap lo hi : Nat} {f : Nat → Value} (h : MU w av n cap lo hi f) {p : Addr} (hp : ∀ q, av = some q → ¬ q.block = p.block) (v : Value) : MU (w.setCell p v) av n cap lo hi f :=
 ⟨h.1, h.2.1, h.2.2.imp id fun ⟨k, e, h3, h4, r⟩ => ⟨k, e, h3, h4, r.far (fun e2 => hp _ e (by rw [e2])) v⟩⟩

theorem mu_put5 {w : World} {av : Option Addr} {n cap lo z : Nat} {f : Nat → Value} (h : MU w av n cap lo w.heap.size f) (hz : ∀ q, av = some q → ¬ q.block = z) (v0 v1 v2 v3 v4 : Value) : MU (((((w.setCell ⟨z, 0, none⟩ v0).setCell ⟨z, 1, none⟩ v1).setCell ⟨z, 2, none⟩ v2).setCell ⟨z, 3, none⟩ v3).setCell ⟨z, 4, none⟩ v4) av n cap lo (((((w.setCell ⟨z, 0, none⟩ v0).setCell ⟨z, 1, none⟩ v1).setCell ⟨z, 2, none⟩ v2).setCell ⟨z, 3, none⟩ v3).setCell ⟨z, 4, none⟩ v4).heap.size f := by
 have e : (((((w.setCell ⟨z, 0, none⟩ v0).setCell ⟨z, 1, none⟩ v1).setCell ⟨z, 2, none⟩ v2).setCell ⟨z, 3, none⟩ v3).setCell ⟨z, 4, none⟩ v4).heap.size = w.heap.size := by simp [World.setCell]
 rw [e]
 exact mu_far (p := ⟨z, 4, none⟩) (mu_far (p := ⟨z, 3, none⟩) (mu_far (p := ⟨z, 2, none⟩) (mu_far (p := ⟨z, 1, none⟩) (mu_far (p := ⟨z, 0, none⟩) h hz v0) hz v1) hz v2) hz v3) hz v4

theorem step_appU {ops : Array Oper} {o : Oper} {a : Act} {w : World} {K : Act → World → Prop} {Q : Exit → Act → World → Prop} {E : Prop} (hg : o.guard = none) (s x : Operand)
  (ho : o.op = .call { callee := .builtin .append, args := #[s, x], argTypes := #[26, 26] })
  (base : Nat) (xv : Option Addr) (xc n : Nat) (ns : List M1.Upd) (hs : a.eval s = .slice xv n xc) (hown : w.ownsRow base 38 13 (.slice xv n xc) n (ucL ns))
  (b yc : Nat) (y : M1.Upd) (hx : a.eval x = .slice (some ⟨b, 0, none⟩) 1 yc) (hc : RowAt w b 13 (uq y)) (hlen : n + 1 ≤ 1000000) (hbase : base ≤ w.heap.size)
  (h : ∀ g cap w', w'.ownsRow base 38 13 (.slice (some ⟨g, 0, none⟩) (n + 1) cap) (n + 1) (ucL (ns ++ [y])) → w.grownBy w' (Value.slice xv n xc).ownBlock → K (a.put o.dst (.slice (some ⟨g, 0, none⟩) (n + 1) cap)) w') :
  if Region.wanted o (yielded ops a.tmps) = true then Oper.wp Tryz.prog o a w K Q else E := by
 have hw : Region.wanted o (yielded ops a.tmps) = true := by simp [Region.wanted, hg]
 rw [if_pos hw]
 obtain ⟨ti, hi1, hi2, hi3, hi4⟩ := infoUpd
 refine wp_append_lies w s x 26 ho base 38 ti _ 13 112 Tryz.underlying26 hi1 hi2 hi3 hi4 rfl (by omega) (.slice xv n xc) n (ucL ns) hs hown ⟨b, 0, none⟩ 1 yc (ucL [y]) hx (by rw [ucL_len]; rfl) ?_ (ucL_one [y]) (by omega) (by unfold maxLen; omega) (by omega) hbase _ rfl ?_
 ·intro j u hu
  have hj : j < 13 := by
   have := (List.getElem?_eq_some_iff.1 hu).1
   rw [ucL_len] at this
   simpa using this
  have e : u = uq y j := by
   have h1 := ucL_get [y] j (by simpa using hj)
   rw [List.getD_eq_getElem?_getD, hu] at h1
   have h2 : u = ucell [y] j := h1
   rw [h2]
   unfold ucell
   rw [show j / 13 = 0 by omega, show j % 13 = j by omega]
   rfl
  rw [e]
  have := hc.cell hj
  by_cases hj0 : j = 0
  ·subst hj0; simpa [Addr.add] using this
  ·simpa [Addr.add, hj0] using this
 ·intro g cap w' hown' hgrow hat hlt
  exact h g cap w' (by rw [ucL_app]; exact hown') hgrow

set_option maxHeartbeats 8000000 in
set_option maxRecDepth 100000 in
theorem leftBy_none (r : Nat) (s s0 s1 s2 s3 s4 : Addr) (w : World) (S : Sens w s0 s1 s2 s3 s4) (hR : Rfs w r s none) :
  Calls Tryz.prog 46 #[.iface 126 (.pointer (some ⟨r, 0, none⟩))] w fun e w' => e = .returned (.agg #[.int .i64 0, .int .i64 0, .int .i64 0, .int .i64 0, .slice none 0 0]) ∧ Below w.heap.size w w' := by
 have hg := S.g
 have hrl := hR.lt
 have z0 := rg_new w 0 0 0 0 none 0 0 28
 have hA : Below w.heap.size w ((w.alloc (.cells #[.int .i64 0, .int .i64 0, .int .i64 0, .int .i64 0, .slice none 0 0] 28)).alloc (.cells #[.pointer none] 126)) := ((Below.refl _ _).alloc (Nat.le_refl _) _).alloc (by simp) _
 have z1 : RgAt ((w.alloc (.cells #[.int .i64 0, .int .i64 0, .int .i64 0, .int .i64 0, .slice none 0 0] 28)).alloc (.cells #[.pointer none] 126)) w.heap.size 0 0 0 0 none 0 0 := z0.alloc _
 have t1 := RowAt.new (w.alloc (.cells #[.int .i64 0, .int .i64 0, .int .i64 0, .int .i64 0, .slice none 0 0] 28)) #[.pointer none] 126
 simp only [World.size_alloc] at t1
 go_enter Tryz.func46, Tryz.ntmps46
 go_upto_region 2 with fail
 obtain ⟨W1, hW1⟩ : ∃ W, (w.alloc (.cells #[.int .i64 0, .int .i64 0, .int .i64 0, .int .i64 0, .slice none 0 0] 28)).alloc (.cells #[.pointer none] 126) = W := ⟨_, rfl⟩
 rw [hW1] at hA z1 t1 ⊢
 clear hW1 z0
 have S1 := S.below hA
 have hR1 : Rfs W1 r s none := hR.below hA
 obtain ⟨z, hz⟩ : ∃ z, Hid (w.heap.size = z) := ⟨_, rfl⟩
 obtain ⟨n, hn⟩ : ∃ n, Hid (w.heap.size + 1 = n) := ⟨_, rfl⟩
 have hzn : ¬ z = n := by have := hz.out; have := hn.out; omega
 have hrn : ¬ r = n := by have := hn.out; omega
 have hzw : w.heap.size ≤ z := by have := hz.out; omega
 have hnw : w.heap.size ≤ n := by have := hn.out; omega
 rw [hn.out] at t1 ⊢
 rw [hz.out] at z1 ⊢
 have n0 := t1.cell (o := 0) (by simp)
 have n1 := t1.free (o := 0) (by simp)
 simp at n0
 have nl := t1.lt
 go_wp2_with fail
 refine (as_hit ⟨r, 0, none⟩ ⟨n, 0, none⟩ _ W1 S1.ct n0 n1).mono ?_
 rintro e w2 ⟨rfl, hw2⟩
 have G2 : Gr n W1 w2 := by rw [hw2]; exact gr_set (gr_alloc (gr_alloc (gr_alloc (gr_alloc (gr_refl _ _) _) _) _) _) _ _
 have n2 : w2.cell? ⟨n, 0, none⟩ = some (.pointer (some ⟨r, 0, none⟩)) := by
  rw [hw2]
  refine World.cell?_setCell_same _ _ _ (u := .pointer none) ?_
  rw [World.cell?_alloc_lt _ _ ⟨n, 0, none⟩ (by simp; omega), World.cell?_alloc_lt _ _ ⟨n, 0, none⟩ (by simp; omega), World.cell?_alloc_lt _ _ ⟨n, 0, none⟩ (by simp; omega), World.cell?_alloc_lt _ _ ⟨n, 0, none⟩ (by simp; omega)]
  exact n0
 clear hw2
 have R2 : Rfs w2 r s none := hR1.gr G2 hrn
 have z2 : RgAt w2 z 0 0 0 0 none 0 0 := z1.gr G2 hzn
 have B2 : Below w.heap.size w w2 := hA.trans (gr_to G2 hA.size hnw)
 clear hR1 z1 n0 n1 t1 G2 S1
 have r1 := R2.c1
 have rl := R2.lt
 obtain ⟨f0, f1, f2, f3, f4⟩ := z2.frees
 obtain ⟨d0, d1, d2, d3, d4⟩ := z2.cells
 have zl := z2.lt
 have zz := z2.put 0 0 0 0 none 0 0
 have hBz := bel_put5 B2 hzw (.int .i64 0) (.int .i64 0) (.int .i64 0) (.int .i64 0) (.slice none 0 0)
 go_wp2_with fail
 obtain ⟨Wz, hWz⟩ : ∃ W, ((((w2.setCell ⟨z, 0, none⟩ (.int .i64 0)).setCell ⟨z, 1, none⟩ (.int .i64 0)).setCell ⟨z, 2, none⟩ (.int .i64 0)).setCell ⟨z, 3, none⟩ (.int .i64 0)).setCell ⟨z, 4, none⟩ (.slice none 0 0) = W := ⟨_, rfl⟩
 rw [hWz] at zz hBz ⊢
 clear hWz f0 f1 f2 f3 f4 d0 d1 d2 d3 d4
 obtain ⟨v0, v1, v2, v3, v4⟩ := zz.cells
 refine bodyPost_ret (v := .agg #[.int .i64 0, .int .i64 0, .int .i64 0, .int .i64 0, .slice none 0 0]) (by simp [results, Tryz.results46, go_sem, v0, v1, v2, v3, v4]) rfl ?_
 exact ⟨rfl, hBz⟩

set_option maxHeartbeats 8000000 in
set_option maxRecDepth 100000 in
theorem leftBy_some (r p : Nat) (s s0 s1 s2 s3 s4 : Addr) (id a b c : Int) (av : Option Addr) (m cm : Nat) (us : List M1.Upd) (w : World) (S : Sens w s0 s1 s2 s3 s4) (hR : Rfs w r s (some ⟨p, 0, none⟩)) (hP : RgAt w p id a b c av m cm) (hU : IsUpds w av m cm us) (hsh : Hid (∀ i, i < m → (M1.up us i).s.size ≤ 1000)) (hm60 : m ≤ 60) :
  Calls Tryz.prog 46 #[.iface 126 (.pointer (some ⟨r, 0, none⟩))] w fun e w' => (∃ v2 c2, e = .returned (.agg #[.int .i64 id, .int .i64 a, .int .i64 b, .int .i64 c, .slice v2 m c2]) ∧ MU w' v2 m c2 w.heap.size w'.heap.size (ucell us)) ∧ Below w.heap.size w w' := by
 have hg := S.g
 have hrl := hR.lt
 have z0 := rg_new w 0 0 0 0 none 0 0 28
 have hA : Below w.heap.size w ((w.alloc (.cells #[.int .i64 0, .int .i64 0, .int .i64 0, .int .i64 0, .slice none 0 0] 28)).alloc (.cells #[.pointer none] 126)) := ((Below.refl _ _).alloc (Nat.le_refl _) _).alloc (by simp) _
 have z1 : RgAt ((w.alloc (.cells #[.int .i64 0, .int .i64 0, .int .i64 0, .int .i64 0, .slice none 0 0] 28)).alloc (.cells #[.pointer none] 126)) w.heap.size 0 0 0 0 none 0 0 := z0.alloc _
 have t1 := RowAt.new (w.alloc (.cells #[.int .i64 0, .int .i64 0, .int .i64 0, .int .i64 0, .slice none 0 0] 28)) #[.pointer none] 126
 simp only [World.size_alloc] at t1
 go_enter Tryz.func46, Tryz.ntmps46
 go_upto_region 2 with fail
 obtain ⟨W1, hW1⟩ : ∃ W, (w.alloc (.cells #[.int .i64 0, .int .i64 0, .int .i64 0, .int .i64 0, .slice none 0 0] 28)).alloc (.cells #[.pointer none] 126) = W := ⟨_, rfl⟩
 rw [hW1] at hA z1 t1 ⊢
 clear hW1 z0
 have S1 := S.below hA
 have hR1 : Rfs W1 r s (some ⟨p, 0, none⟩) := hR.below hA
 obtain ⟨z, hz⟩ : ∃ z, Hid (w.heap.size = z) := ⟨_, rfl⟩
 obtain ⟨n, hn⟩ : ∃ n, Hid (w.heap.size + 1 = n) := ⟨_, rfl⟩
 have hzn : ¬ z = n := by have := hz.out; have := hn.out; omega
 have hrn : ¬ r = n := by have := hn.out; omega
 have hzw : w.heap.size ≤ z := by have := hz.out; omega
 have hnw : w.heap.size ≤ n := by have := hn.out; omega
 rw [hn.out] at t1 ⊢
 rw [hz.out] at z1 ⊢
 have n0 := t1.cell (o := 0) (by simp)
 have n1 := t1.free (o := 0) (by simp)
 simp at n0
 have nl := t1.lt
 go_wp2_with fail
 refine (as_hit ⟨r, 0, none⟩ ⟨n, 0, none⟩ _ W1 S1.ct n0 n1).mono ?_
 rintro e w2 ⟨rfl, hw2⟩
 have G2 : Gr n W1 w2 := by rw [hw2]; exact gr_set (gr_alloc (gr_alloc (gr_alloc (gr_alloc (gr_refl _ _) _) _) _) _) _ _
 have n2 : w2.cell? ⟨n, 0, none⟩ = some (.pointer (some ⟨r, 0, none⟩)) := by
  rw [hw2]
  refine World.cell?_setCell_same _ _ _ (u := .pointer none) ?_
  rw [World.cell?_alloc_lt _ _ ⟨n, 0, none⟩ (by simp; omega), World.cell?_alloc_lt _ _ ⟨n, 0, none⟩ (by simp; omega), World.cell?_alloc_lt _ _ ⟨n, 0, none⟩ (by simp; omega), World.cell?_alloc_lt _ _ ⟨n, 0, none⟩ (by simp; omega)]
  exact n0
 clear hw2
 have R2 : Rfs w2 r s (some ⟨p, 0, none⟩) := hR1.gr G2 hrn
 have z2 : RgAt w2 z 0 0 0 0 none 0 0 := z1.gr G2 hzn
 have B2 : Below w.heap.size w w2 := hA.trans (gr_to G2 hA.size hnw)
 have hpl := hP.lt
 have hpn : ¬ p = n := by have := hn.out; omega
 have P2 : RgAt w2 p id a b c av m cm := hP.below B2
 have hs2 := B2.size
 have nw2 : n < w2.heap.size := Nat.lt_of_lt_of_le nl G2.size
 clear hR1 z1 n0 n1 t1 G2 S1
 have r1 := R2.c1
 have rl := R2.lt
 have pl2 := P2.lt
 have zl := z2.lt
 obtain ⟨d0, d1, d2, d3, d4⟩ := P2.cells
 have hpe := ptr_nil w2 ⟨p, 0, none⟩
 go_wp2_with fail
 refine wp_region_held_drew (S := fun w' => Kp w2 w') (by kernel_rfl) ?_ (fun hHeld => ?_)
 ·exact kp_zero _
 refine tZ (i:=0) (v:=?_) rfl (.inl ⟨by rfl, ?_⟩) hHeld ?_
 rotate_left
 ·(intro w hSw; (try dsimp only at hSw); go_simp; try (with_reducible rfl))
 (try simp only [Act.put, zZ])
 refine tZ (i:=1) (v:=?_) rfl (.inl ⟨by rfl, ?_⟩) hHeld ?_
 rotate_left
 ·(intro w hSw; (try dsimp only at hSw); go_simp; try (with_reducible rfl))
 (try simp only [Act.put, zZ])
 refine tZ (i:=2) (v:=?_) rfl (.inl ⟨by rfl, ?_⟩) hHeld ?_
 rotate_left
 ·(intro w hSw; (try dsimp only at hSw); go_simp; try (with_reducible rfl))
 (try simp only [Act.put, zZ])
 refine tZ (i:=3) (v:=?_) rfl (.inl ⟨by rfl, ?_⟩) hHeld ?_
 rotate_left
 ·(intro w hSw; (try dsimp only at hSw); go_simp; try (with_reducible rfl))
 (try simp only [Act.put, zZ])
 refine tZ (i:=4) (v:=?_) rfl (.inl ⟨by rfl, ?_⟩) hHeld ?_
 rotate_left
 ·(intro w hSw; (try dsimp only at hSw); go_simp; try (with_reducible rfl))
 (try simp only [Act.put, zZ])
 refine tZ (i:=5) (v:=?_) rfl (.inl ⟨by rfl, ?_⟩) hHeld ?_
 rotate_left
 ·(intro w hSw; (try dsimp only at hSw); go_simp; try (with_reducible rfl))
 (try simp only [Act.put, zZ])
 refine tZ (i:=6) (v:=?_) rfl (.inl ⟨by rfl, ?_⟩) hHeld ?_
 rotate_left
 ·(intro w hSw; (try dsimp only at hSw); go_simp; try (with_reducible rfl))
 (try simp only [Act.put, zZ])
 refine tZ (i:=7) (v:=?_) rfl (.inl ⟨by rfl, ?_⟩) hHeld ?_
 rotate_left
 ·(intro w hSw; (try dsimp only at hSw); go_simp; try (with_reducible rfl))
 (try simp only [Act.put, zZ])
 refine tZ (i:=8) (v:=?_) rfl (.inl ⟨by rfl, ?_⟩) hHeld ?_
 rotate_left
 ·(intro w hSw; (try dsimp only at hSw); go_simp; try (with_reducible rfl))
 (try simp only [Act.put, zZ])
 refine tZ (i:=9) (v:=?_) rfl (.inl ⟨by rfl, ?_⟩) hHeld ?_
 rotate_left
 ·(intro w hSw; (try dsimp only at hSw); go_simp; try (with_reducible rfl))
 (try simp only [Act.put, zZ])
 refine tZ (i:=10) (v:=?_) rfl (.inl ⟨by rfl, ?_⟩) hHeld ?_
 rotate_left
 ·(intro w hSw; (try dsimp only at hSw); go_simp; try (with_reducible rfl))
 (try simp only [Act.put, zZ])
 refine tZ (i:=11) (v:=?_) rfl (.inl ⟨by rfl, ?_⟩) hHeld ?_
 rotate_left
 ·(intro w hSw; (try dsimp only at hSw); go_simp; try (with_reducible rfl))
 (try simp only [Act.put, zZ])
 refine tZ (i:=12) (v:=?_) rfl (.inl ⟨by rfl, ?_⟩) hHeld ?_
 rotate_left
 ·(intro w hSw; (try dsimp only at hSw); go_simp; try (with_reducible rfl))
 (try simp only [Act.put, zZ])
 refine tZ (i:=13) (v:=?_) rfl (.inl ⟨by rfl, ?_⟩) hHeld ?_
 rotate_left
 ·(intro w hSw; (try dsimp only at hSw); go_simp; try (with_reducible rfl))
 (try simp only [Act.put, zZ])
 refine tZ (i:=14) (v:=.agg #[.int .i64 id, .int .i64 a, .int .i64 b, .int .i64 c, .slice none 0 0]) rfl (.inl ⟨by rfl, ?_⟩) hHeld ?_
 ·(intro w hSw; (try dsimp only at hSw); go_simp; skip)
 (try simp only [Act.put, zZ])
 refine wpAnyH_ready (rs := [15]) (by kernel_rfl) (by simp) ?_
 refine AllReadyH.cons (o := _) rfl (fun K hK => ?_) AllReadyH.nil
 go_simp
 skip
 refine hK.out _ _ ?_ (fun hHeld2 => ?_)
 ·exact kp_alloc hHeld _
 clear hK K hHeld
 have hHeld := hHeld2
 clear hHeld2
 (try simp only [Act.put, zZ])
 refine wpAnyH_ready (rs := [16]) (by kernel_rfl) (by simp) ?_
 refine AllReadyH.cons (o := _) rfl (fun K hK => ?_) AllReadyH.nil
 go_simp
 skip
 refine hK.out _ _ ?_ (fun hHeld2 => ?_)
 ·exact kp_drew (kp_of ((Below.refl _ _).alloc (Nat.le_refl _) _))
 clear hK K hHeld
 have hHeld := hHeld2
 clear hHeld2
 (try simp only [Act.put, zZ])
 refine wpAnyH_done (by kernel_rfl) ?_ _
 have hA3 : Below w2.heap.size w2 (w2.alloc (.cells #[.int .i64 id, .int .i64 a, .int .i64 b, .int .i64 c, .slice none 0 0] 28)).drew := ((Below.refl _ _).alloc (Nat.le_refl _) _).drew
 have L3 : RgAt (w2.alloc (.cells #[.int .i64 id, .int .i64 a, .int .i64 b, .int .i64 c, .slice none 0 0] 28)).drew w2.heap.size id a b c none 0 0 := (rg_new w2 id a b c none 0 0 28).drew
 clear hHeld
 obtain ⟨W3, hW3⟩ : ∃ W, (w2.alloc (.cells #[.int .i64 id, .int .i64 a, .int .i64 b, .int .i64 c, .slice none 0 0] 28)).drew = W := ⟨_, rfl⟩
 rw [hW3] at hA3 L3 ⊢
 clear hW3
 have B3 := B2.trans (hA3.mono B2.size)
 have R3 : Rfs W3 r s (some ⟨p, 0, none⟩) := R2.below hA3
 have P3 : RgAt W3 p id a b c av m cm := P2.below hA3
 have z3 : RgAt W3 z 0 0 0 0 none 0 0 := z2.below hA3
 have n3 : W3.cell? ⟨n, 0, none⟩ = some (.pointer (some ⟨r, 0, none⟩)) := (hA3.cell (p := ⟨n, 0, none⟩) nw2).trans n2
 have nw3 : n < W3.heap.size := Nat.lt_of_lt_of_le nw2 hA3.size
 obtain ⟨L, hL⟩ : ∃ L, Hid (w2.heap.size = L) := ⟨_, rfl⟩
 have hLw : w.heap.size ≤ L := by have := hL.out; omega
 have hzL : z < L := by have := hL.out; omega
 rw [hL.out] at L3 ⊢
 clear P2 R2 z2 n2 hA3 B2 r1 rl pl2 d0 d1 d2 d3 d4 hpe zl hs2 nw2
 have r1 := R3.c1
 have rl := R3.lt
 obtain ⟨d0, d1, d2, d3, d4⟩ := P3.cells
 have pl3 := P3.lt
 have own0 : W3.ownsRow (L + 1) 38 13 (.slice none 0 0) 0 (ucL (us.take 0)) := ⟨rfl, .inl ⟨rfl, rfl⟩⟩
 have hl0 := L3.lt
 go_wp2_with fail
 go_loopw [42] (fun i wr => ∃ (k : Nat) (xv : Option Addr) (xc : Nat), k ≤ m ∧ i = .int .i64 k ∧ Below w.heap.size w wr ∧ RgAt wr L id a b c xv k xc ∧ RgAt wr z 0 0 0 0 none 0 0 ∧ wr.ownsRow (L + 1) 38 13 (.slice xv k xc) k (ucL (us.take k))) (fun i _ => m - (intOf i).toNat)
 case atStart => exact ⟨0, none, 0, Nat.zero_le _, rfl, B3, L3, z3, own0⟩
 case round =>
  clear B3 L3 z3 own0 R3 P3 n3 nw3 r1 rl d0 d1 d2 d3 d4 pl3 hl0
  obtain ⟨k, xv, xc, hk, rfl, hB, LL, zz, own⟩ := hrel
  have ll := LL.lt
  have zl := zz.lt
  by_cases hlt : k < m
  ·have g1 := hU.below hB
   rcases g1.hlies with h0 | ⟨d, off, rfl, hb, hc⟩
   ·omega
   obtain ⟨c0, c1, c2, c3, c4, c5, c6, c7, c8, c9, c10, c11, c12⟩ := hc k hlt
   clear hc g1
   have i0 : (0 : Int) ≤ (k : Int) := by omega
   have i1 : (k : Int) < (m : Int) := by omega
   have HT : Hid (us.take (k + 1) = us.take k ++ [M1.up us k]) := take_snocU (by rw [hU.hlen]; exact hlt)
   have hus := hsh.out k hlt
   obtain ⟨u, hu⟩ : ∃ u, Hid (M1.up us k = u) := ⟨_, rfl⟩
   rw [hu.out] at HT hus c0 c1 c2 c3 c4 c5 c6 c7 c8 c9 c10 c11 c12
   have hA4 : Below wr.heap.size wr (wr.alloc (.cells #[.int .i64 u.dr, .int .i64 u.dn, .int .i64 u.sw, .int .i64 u.sc, .int .i64 u.sr, .int .i64 u.k, .int .i64 u.tr, .int .i64 u.id, .int .i64 u.pa, .string u.s, .int .i64 u.st, .int .i64 u.en, .int .i64 u.lv] 38)) := (Below.refl _ _).alloc (Nat.le_refl _) _
   have x4 := uq_new wr u 38
   go_upto_region 8 with fail
   obtain ⟨W4, hW4⟩ : ∃ W, wr.alloc (.cells #[.int .i64 u.dr, .int .i64 u.dn, .int .i64 u.sw, .int .i64 u.sc, .int .i64 u.sr, .int .i64 u.k, .int .i64 u.tr, .int .i64 u.id, .int .i64 u.pa, .string u.s, .int .i64 u.st, .int .i64 u.en, .int .i64 u.lv] 38) = W := ⟨_, rfl⟩
   rw [hW4] at hA4 x4 ⊢
   clear hW4 c0 c1 c2 c3 c4 c5 c6 c7 c8 c9 c10 c11 c12
   have B4 := hB.trans (hA4.mono hB.size)
   have L4 : RgAt W4 L id a b c xv k xc := LL.below hA4
   have z4 : RgAt W4 z 0 0 0 0 none 0 0 := zz.below hA4
   have own4 := owns_below own hA4
   have hxo : Hid (¬ (Value.slice xv k xc).ownBlock = some wr.heap.size) := owns_old own
   have hxL : L < wr.heap.size := ll
   obtain ⟨x, hx⟩ : ∃ x, Hid (wr.heap.size = x) := ⟨_, rfl⟩
   rw [hx.out] at x4 hxo hxL ⊢
   clear hB LL zz own hA4
   obtain ⟨c0, c1, c2, c3, c4, c5, c6, c7, c8, c9, c10, c11, c12⟩ := uq_cells x4
   obtain ⟨_, _, _, _, e4⟩ := L4.cells
   have xl := x4.lt
   have ll4 := L4.lt
   refine wp_region_held_drew (S := fun w' => RowAt w' x 13 (uq u)) (by kernel_rfl) ?_ (fun hHeld => ?_)
   ·exact x4.drew
   refine tZ (i:=0) (v:=?_) rfl (.inl ⟨by rfl, ?_⟩) hHeld ?_
   rotate_left
   ·(intro w hSw; (try dsimp only at hSw); go_simp; try (with_reducible rfl))
   (try simp only [Act.put, zZ])
   refine tZ (i:=2) (v:=.agg #[.int .i64 u.dr, .int .i64 u.dn, .int .i64 u.sw, .int .i64 u.sc, .int .i64 u.sr, .int .i64 u.k, .int .i64 u.tr, .int .i64 u.id, .int .i64 u.pa, .string u.s, .int .i64 u.st, .int .i64 u.en, .int .i64 u.lv]) rfl (.inl ⟨by rfl, ?_⟩) hHeld ?_
   ·(intro w hSw; (try dsimp only at hSw); go_simp; (obtain ⟨c0, c1, c2, c3, c4, c5, c6, c7, c8, c9, c10, c11, c12⟩ := uq_cells hSw; simp [go_sem, c0, c1, c2, c3, c4, c5, c6, c7, c8, c9, c10, c11, c12]))
   (try simp only [Act.put, zZ])
   refine wpAnyH_ready (rs := [1, 3]) (by kernel_rfl) (by simp) ?_
   refine AllReadyH.cons (o := _) rfl (fun K hK => ?_) (AllReadyH.cons (o := _) rfl (fun K hK => ?_) AllReadyH.nil)
   ·go_simp
    refine hK.out _ _ hHeld (fun hHeld2 => ?_)
    clear hK K hHeld
    have hHeld := hHeld2
    clear hHeld2
    (try simp only [Act.put, zZ])
    refine wpAnyH_ready (rs := [3]) (by kernel_rfl) (by simp) ?_
    refine AllReadyH.cons (o := _) rfl (fun K hK => ?_) AllReadyH.nil
    go_simp
    (refine (copyOf_any u _ hus).mono ?_; rintro e w5 ⟨rfl, hb5⟩; go_wp2_with fail)
    refine hK.out _ _ ?_ (fun hHeld2 => ?_)
    ·exact hHeld.below hb5
    clear hK K hHeld
    have hHeld := hHeld2
    clear hHeld2
    (try simp only [Act.put, zZ])
    have L5 : RgAt w5 L id a b c xv k xc := L4.drew.below hb5
    have x5 := x4.drew.below hb5
    have z5 : RgAt w5 z 0 0 0 0 none 0 0 := z4.drew.below hb5
    have own5 := owns_below own4 (show Below W4.heap.size W4 w5 from (Below.refl _ _).drew.trans hb5)
    have B5 := B4.trans ((show Below W4.heap.size W4 w5 from (Below.refl _ _).drew.trans hb5).mono B4.size)
    have hs5 := hb5.size
    obtain ⟨_, _, _, _, e5⟩ := L5.cells
    have ll5 := L5.lt
    refine wpAnyH_ready (rs := [4]) (by kernel_rfl) (by simp) ?_
    refine AllReadyH.cons (o := _) rfl (fun K hK => ?_) AllReadyH.nil
    go_simp
    skip
    refine hK.out _ _ ?_ (fun hHeld2 => ?_)
    ·exact hHeld.below ((Below.refl _ _).alloc (Nat.le_refl _) _)
    clear hK K hHeld
    have hHeld := hHeld2
    clear hHeld2
    (try simp only [Act.put, zZ])
    refine wpAnyH_ready (rs := [5]) (by kernel_rfl) (by simp) ?_
    refine AllReadyH.cons (o := _) rfl (fun K hK => ?_) AllReadyH.nil
    have hA6 : Below w5.heap.size w5 (w5.alloc (.cells #[.int .i64 u.dr, .int .i64 u.dn, .int .i64 u.sw, .int .i64 u.sc, .int .i64 u.sr, .int .i64 u.k, .int .i64 u.tr, .int .i64 u.id, .int .i64 u.pa, .string u.s, .int .i64 u.st, .int .i64 u.en, .int .i64 u.lv] 38)) := (Below.refl _ _).alloc (Nat.le_refl _) _
    have y6 := uq_new w5 u 38
    have own6 := owns_below own5 hA6
    have L6 : RgAt (w5.alloc (.cells #[.int .i64 u.dr, .int .i64 u.dn, .int .i64 u.sw, .int .i64 u.sc, .int .i64 u.sr, .int .i64 u.k, .int .i64 u.tr, .int .i64 u.id, .int .i64 u.pa, .string u.s, .int .i64 u.st, .int .i64 u.en, .int .i64 u.lv] 38)) L id a b c xv k xc := L5.below hA6
    have x6 := x5.below hA6
    have z6 : RgAt (w5.alloc (.cells #[.int .i64 u.dr, .int .i64 u.dn, .int .i64 u.sw, .int .i64 u.sc, .int .i64 u.sr, .int .i64 u.k, .int .i64 u.tr, .int .i64 u.id, .int .i64 u.pa, .string u.s, .int .i64 u.st, .int .i64 u.en, .int .i64 u.lv] 38)) z 0 0 0 0 none 0 0 := z5.below hA6
    have B6 := B5.trans (hA6.mono B5.size)
    have hs6 := hA6.size
    obtain ⟨W6, hW6⟩ : ∃ W, w5.alloc (.cells #[.int .i64 u.dr, .int .i64 u.dn, .int .i64 u.sw, .int .i64 u.sc, .int .i64 u.sr, .int .i64 u.k, .int .i64 u.tr, .int .i64 u.id, .int .i64 u.pa, .string u.s, .int .i64 u.st, .int .i64 u.en, .int .i64 u.lv] 38) = W := ⟨_, rfl⟩
    rw [hW6] at hHeld own6 L6 x6 z6 B6 y6 hs6 ⊢
    clear hW6 hA6
    refine step_appU rfl _ _ rfl (L + 1) xv xc k (us.take k) rfl own6 w5.heap.size 1 u rfl y6 (by omega) (by omega) ?_
    intro g7 cap7 w7 own7 hgrow7
    have hb7 := owns_off own6
    have G7 : ∀ j, j < W6.heap.size → j ≤ L → w7.heap[j]? = W6.heap[j]? := fun j hj hL => hgrow7.block j hj (fun e => by have := hb7 j e.symm; omega)
    have GX : w7.heap[x]? = W6.heap[x]? := hgrow7.block x (by have := x6.lt; omega) (fun e => hxo.out e.symm)
    have L7 : RgAt w7 L id a b c xv k xc := row_block L6 (G7 L L6.lt (Nat.le_refl _)) hgrow7.size
    have z7 : RgAt w7 z 0 0 0 0 none 0 0 := row_block z6 (G7 z z6.lt (by omega)) hgrow7.size
    have x7 := row_block x6 GX hgrow7.size
    have B7 : Below w.heap.size w w7 := B6.grown hgrow7 B6.size (fun j e => by have := hb7 j e; omega)
    refine hK.out _ _ x7 (fun hHeld2 => ?_)
    clear hK K hHeld
    have hHeld := hHeld2
    clear hHeld2
    (try simp only [Act.put, zZ])
    obtain ⟨_, _, _, _, l4⟩ := L7.cells
    obtain ⟨_, _, _, _, k4⟩ := L7.frees
    have ll7 := L7.lt
    have L8 : RgAt (w7.setCell ⟨L, 4, none⟩ (.slice (some ⟨g7, 0, none⟩) (k + 1) cap7)) L id a b c (some ⟨g7, 0, none⟩) (k + 1) cap7 := rg_set L7 _ _ _
    have z8 : RgAt (w7.setCell ⟨L, 4, none⟩ (.slice (some ⟨g7, 0, none⟩) (k + 1) cap7)) z 0 0 0 0 none 0 0 := z7.far (p := ⟨L, 4, none⟩) (by show L ≠ z; omega) _
    have x8 := x7.far (p := ⟨L, 4, none⟩) (by show L ≠ x; omega) (.slice (some ⟨g7, 0, none⟩) (k + 1) cap7)
    have own8 := owns_set own7 (p := ⟨L, 4, none⟩) (by show L < L + 1; omega) (.slice (some ⟨g7, 0, none⟩) (k + 1) cap7)
    have B8 : Below w.heap.size w (w7.setCell ⟨L, 4, none⟩ (.slice (some ⟨g7, 0, none⟩) (k + 1) cap7)) := B7.setCell (p := ⟨L, 4, none⟩) hLw _
    refine tZ (i:=6) (v:=?_) rfl (.inl ⟨by rfl, ?_⟩) hHeld ?_
    rotate_left
    ·(intro w hSw; (try dsimp only at hSw); go_simp; try (with_reducible rfl))
    (try simp only [Act.put, zZ])
    refine wpAnyH_ready (rs := [7]) (by kernel_rfl) (by simp) ?_
    refine AllReadyH.cons (o := _) rfl (fun K hK => ?_) AllReadyH.nil
    go_simp
    skip
    refine hK.out _ _ ?_ (fun hHeld2 => ?_)
    ·exact x8
    clear hK K hHeld
    have hHeld := hHeld2
    clear hHeld2
    (try simp only [Act.put, zZ])
    refine wpAnyH_done (by kernel_rfl) ?_ _
    generalize w7.setCell ⟨L, 4, none⟩ (.slice (some ⟨g7, 0, none⟩) (k + 1) cap7) = W8 at L8 z8 own8 B8 ⊢
    have own9 : W8.ownsRow (L + 1) 38 13 (.slice (some ⟨g7, 0, none⟩) (k + 1) cap7) (k + 1) (ucL (us.take (k + 1))) := by rw [HT.out]; exact own8
    go_wp2_with fail
    exact ⟨⟨k + 1, some ⟨g7, 0, none⟩, cap7, by omega, by go_num, B8, L8, z8, own9⟩, by simp [intOf]; omega⟩
   ·go_simp
    refine (copyOf_any u _ hus).mono ?_
    rintro e w5 ⟨rfl, hb5⟩
    go_wp2_with fail
    refine hK.out _ _ (hHeld.below hb5) (fun hHeld2 => ?_)
    clear hK K hHeld
    have hHeld := hHeld2
    clear hHeld2
    (try simp only [Act.put, zZ])
    have L5 : RgAt w5 L id a b c xv k xc := L4.drew.below hb5
    have x5 := x4.drew.below hb5
    have z5 : RgAt w5 z 0 0 0 0 none 0 0 := z4.drew.below hb5
    have own5 := owns_below own4 (show Below W4.heap.size W4 w5 from (Below.refl _ _).drew.trans hb5)
    have B5 := B4.trans ((show Below W4.heap.size W4 w5 from (Below.refl _ _).drew.trans hb5).mono B4.size)
    have hs5 := hb5.size
    obtain ⟨_, _, _, _, e5⟩ := L5.cells
    have ll5 := L5.lt
    refine wpAnyH_ready (rs := [1, 4]) (by kernel_rfl) (by simp) ?_
    refine AllReadyH.cons (o := _) rfl (fun K hK => ?_) (AllReadyH.cons (o := _) rfl (fun K hK => ?_) AllReadyH.nil)
    ·go_simp
     refine hK.out _ _ hHeld (fun hHeld2 => ?_)
     clear hK K hHeld
     have hHeld := hHeld2
     clear hHeld2
     (try simp only [Act.put, zZ])
     refine wpAnyH_ready (rs := [4]) (by kernel_rfl) (by simp) ?_
     refine AllReadyH.cons (o := _) rfl (fun K hK => ?_) AllReadyH.nil
     go_simp
     skip
     refine hK.out _ _ ?_ (fun hHeld2 => ?_)
     ·exact hHeld.below ((Below.refl _ _).alloc (Nat.le_refl _) _)
     clear hK K hHeld
     have hHeld := hHeld2
     clear hHeld2
     (try simp only [Act.put, zZ])
     refine wpAnyH_ready (rs := [5]) (by kernel_rfl) (by simp) ?_
     refine AllReadyH.cons (o := _) rfl (fun K hK => ?_) AllReadyH.nil
     have hA6 : Below w5.heap.size w5 (w5.alloc (.cells #[.int .i64 u.dr, .int .i64 u.dn, .int .i64 u.sw, .int .i64 u.sc, .int .i64 u.sr, .int .i64 u.k, .int .i64 u.tr, .int .i64 u.id, .int .i64 u.pa, .string u.s, .int .i64 u.st, .int .i64 u.en, .int .i64 u.lv] 38)) := (Below.refl _ _).alloc (Nat.le_refl _) _
     have y6 := uq_new w5 u 38
     have own6 := owns_below own5 hA6
     have L6 : RgAt (w5.alloc (.cells #[.int .i64 u.dr, .int .i64 u.dn, .int .i64 u.sw, .int .i64 u.sc, .int .i64 u.sr, .int .i64 u.k, .int .i64 u.tr, .int .i64 u.id, .int .i64 u.pa, .string u.s, .int .i64 u.st, .int .i64 u.en, .int .i64 u.lv] 38)) L id a b c xv k xc := L5.below hA6
     have x6 := x5.below hA6
     have z6 : RgAt (w5.alloc (.cells #[.int .i64 u.dr, .int .i64 u.dn, .int .i64 u.sw, .int .i64 u.sc, .int .i64 u.sr, .int .i64 u.k, .int .i64 u.tr, .int .i64 u.id, .int .i64 u.pa, .string u.s, .int .i64 u.st, .int .i64 u.en, .int .i64 u.lv] 38)) z 0 0 0 0 none 0 0 := z5.below hA6
     have B6 := B5.trans (hA6.mono B5.size)
     have hs6 := hA6.size
     obtain ⟨W6, hW6⟩ : ∃ W, w5.alloc (.cells #[.int .i64 u.dr, .int .i64 u.dn, .int .i64 u.sw, .int .i64 u.sc, .int .i64 u.sr, .int .i64 u.k, .int .i64 u.tr, .int .i64 u.id, .int .i64 u.pa, .string u.s, .int .i64 u.st, .int .i64 u.en, .int .i64 u.lv] 38) = W := ⟨_, rfl⟩
     rw [hW6] at hHeld own6 L6 x6 z6 B6 y6 hs6 ⊢
     clear hW6 hA6
     refine step_appU rfl _ _ rfl (L + 1) xv xc k (us.take k) rfl own6 w5.heap.size 1 u rfl y6 (by omega) (by omega) ?_
     intro g7 cap7 w7 own7 hgrow7
     have hb7 := owns_off own6
     have G7 : ∀ j, j < W6.heap.size → j ≤ L → w7.heap[j]? = W6.heap[j]? := fun j hj hL => hgrow7.block j hj (fun e => by have := hb7 j e.symm; omega)
     have GX : w7.heap[x]? = W6.heap[x]? := hgrow7.block x (by have := x6.lt; omega) (fun e => hxo.out e.symm)
     have L7 : RgAt w7 L id a b c xv k xc := row_block L6 (G7 L L6.lt (Nat.le_refl _)) hgrow7.size
     have z7 : RgAt w7 z 0 0 0 0 none 0 0 := row_block z6 (G7 z z6.lt (by omega)) hgrow7.size
     have x7 := row_block x6 GX hgrow7.size
     have B7 : Below w.heap.size w w7 := B6.grown hgrow7 B6.size (fun j e => by have := hb7 j e; omega)
     refine hK.out _ _ x7 (fun hHeld2 => ?_)
     clear hK K hHeld
     have hHeld := hHeld2
     clear hHeld2
     (try simp only [Act.put, zZ])
     obtain ⟨_, _, _, _, l4⟩ := L7.cells
     obtain ⟨_, _, _, _, k4⟩ := L7.frees
     have ll7 := L7.lt
     have L8 : RgAt (w7.setCell ⟨L, 4, none⟩ (.slice (some ⟨g7, 0, none⟩) (k + 1) cap7)) L id a b c (some ⟨g7, 0, none⟩) (k + 1) cap7 := rg_set L7 _ _ _
     have z8 : RgAt (w7.setCell ⟨L, 4, none⟩ (.slice (some ⟨g7, 0, none⟩) (k + 1) cap7)) z 0 0 0 0 none 0 0 := z7.far (p := ⟨L, 4, none⟩) (by show L ≠ z; omega) _
     have x8 := x7.far (p := ⟨L, 4, none⟩) (by show L ≠ x; omega) (.slice (some ⟨g7, 0, none⟩) (k + 1) cap7)
     have own8 := owns_set own7 (p := ⟨L, 4, none⟩) (by show L < L + 1; omega) (.slice (some ⟨g7, 0, none⟩) (k + 1) cap7)
     have B8 : Below w.heap.size w (w7.setCell ⟨L, 4, none⟩ (.slice (some ⟨g7, 0, none⟩) (k + 1) cap7)) := B7.setCell (p := ⟨L, 4, none⟩) hLw _
     refine tZ (i:=6) (v:=?_) rfl (.inl ⟨by rfl, ?_⟩) hHeld ?_
     rotate_left
     ·(intro w hSw; (try dsimp only at hSw); go_simp; try (with_reducible rfl))
     (try simp only [Act.put, zZ])
     refine wpAnyH_ready (rs := [7]) (by kernel_rfl) (by simp) ?_
     refine AllReadyH.cons (o := _) rfl (fun K hK => ?_) AllReadyH.nil
     go_simp
     skip
     refine hK.out _ _ ?_ (fun hHeld2 => ?_)
     ·exact x8
     clear hK K hHeld
     have hHeld := hHeld2
     clear hHeld2
     (try simp only [Act.put, zZ])
     refine wpAnyH_done (by kernel_rfl) ?_ _
     generalize w7.setCell ⟨L, 4, none⟩ (.slice (some ⟨g7, 0, none⟩) (k + 1) cap7) = W8 at L8 z8 own8 B8 ⊢
     have own9 : W8.ownsRow (L + 1) 38 13 (.slice (some ⟨g7, 0, none⟩) (k + 1) cap7) (k + 1) (ucL (us.take (k + 1))) := by rw [HT.out]; exact own8
     go_wp2_with fail
     exact ⟨⟨k + 1, some ⟨g7, 0, none⟩, cap7, by omega, by go_num, B8, L8, z8, own9⟩, by simp [intOf]; omega⟩
    ·go_simp
     refine hK.out _ _ (hHeld.below ((Below.refl _ _).alloc (Nat.le_refl _) _)) (fun hHeld2 => ?_)
     clear hK K hHeld
     have hHeld := hHeld2
     clear hHeld2
     (try simp only [Act.put, zZ])
     have L5b : RgAt _ L id a b c xv k xc := L5.below ((Below.refl _ _).alloc (Nat.le_refl _) (.cells #[.int .i64 u.dr, .int .i64 u.dn, .int .i64 u.sw, .int .i64 u.sc, .int .i64 u.sr, .int .i64 u.k, .int .i64 u.tr, .int .i64 u.id, .int .i64 u.pa, .string u.s, .int .i64 u.st, .int .i64 u.en, .int .i64 u.lv] 38))
     obtain ⟨_, _, _, _, e5b⟩ := L5b.cells
     have ll5b := L5b.lt
     refine wpAnyH_ready (rs := [1]) (by kernel_rfl) (by simp) ?_
     refine AllReadyH.cons (o := _) rfl (fun K hK => ?_) AllReadyH.nil
     go_simp
     skip
     refine hK.out _ _ ?_ (fun hHeld2 => ?_)
     ·exact hHeld
     clear hK K hHeld
     have hHeld := hHeld2
     clear hHeld2
     (try simp only [Act.put, zZ])
     refine wpAnyH_ready (rs := [5]) (by kernel_rfl) (by simp) ?_
     refine AllReadyH.cons (o := _) rfl (fun K hK => ?_) AllReadyH.nil
     have hA6 : Below w5.heap.size w5 (w5.alloc (.cells #[.int .i64 u.dr, .int .i64 u.dn, .int .i64 u.sw, .int .i64 u.sc, .int .i64 u.sr, .int .i64 u.k, .int .i64 u.tr, .int .i64 u.id, .int .i64 u.pa, .string u.s, .int .i64 u.st, .int .i64 u.en, .int .i64 u.lv] 38)) := (Below.refl _ _).alloc (Nat.le_refl _) _
     have y6 := uq_new w5 u 38
     have own6 := owns_below own5 hA6
     have L6 : RgAt (w5.alloc (.cells #[.int .i64 u.dr, .int .i64 u.dn, .int .i64 u.sw, .int .i64 u.sc, .int .i64 u.sr, .int .i64 u.k, .int .i64 u.tr, .int .i64 u.id, .int .i64 u.pa, .string u.s, .int .i64 u.st, .int .i64 u.en, .int .i64 u.lv] 38)) L id a b c xv k xc := L5.below hA6
     have x6 := x5.below hA6
     have z6 : RgAt (w5.alloc (.cells #[.int .i64 u.dr, .int .i64 u.dn, .int .i64 u.sw, .int .i64 u.sc, .int .i64 u.sr, .int .i64 u.k, .int .i64 u.tr, .int .i64 u.id, .int .i64 u.pa, .string u.s, .int .i64 u.st, .int .i64 u.en, .int .i64 u.lv] 38)) z 0 0 0 0 none 0 0 := z5.below hA6
     have B6 := B5.trans (hA6.mono B5.size)
     have hs6 := hA6.size
     obtain ⟨W6, hW6⟩ : ∃ W, w5.alloc (.cells #[.int .i64 u.dr, .int .i64 u.dn, .int .i64 u.sw, .int .i64 u.sc, .int .i64 u.sr, .int .i64 u.k, .int .i64 u.tr, .int .i64 u.id, .int .i64 u.pa, .string u.s, .int .i64 u.st, .int .i64 u.en, .int .i64 u.lv] 38) = W := ⟨_, rfl⟩
     rw [hW6] at hHeld own6 L6 x6 z6 B6 y6 hs6 ⊢
     clear hW6 hA6
     refine step_appU rfl _ _ rfl (L + 1) xv xc k (us.take k) rfl own6 w5.heap.size 1 u rfl y6 (by omega) (by omega) ?_
     intro g7 cap7 w7 own7 hgrow7
     have hb7 := owns_off own6
     have G7 : ∀ j, j < W6.heap.size → j ≤ L → w7.heap[j]? = W6.heap[j]? := fun j hj hL => hgrow7.block j hj (fun e => by have := hb7 j e.symm; omega)
     have GX : w7.heap[x]? = W6.heap[x]? := hgrow7.block x (by have := x6.lt; omega) (fun e => hxo.out e.symm)
     have L7 : RgAt w7 L id a b c xv k xc := row_block L6 (G7 L L6.lt (Nat.le_refl _)) hgrow7.size
     have z7 : RgAt w7 z 0 0 0 0 none 0 0 := row_block z6 (G7 z z6.lt (by omega)) hgrow7.size
     have x7 := row_block x6 GX hgrow7.size
     have B7 : Below w.heap.size w w7 := B6.grown hgrow7 B6.size (fun j e => by have := hb7 j e; omega)
     refine hK.out _ _ x7 (fun hHeld2 => ?_)
     clear hK K hHeld
     have hHeld := hHeld2
     clear hHeld2
     (try simp only [Act.put, zZ])
     obtain ⟨_, _, _, _, l4⟩ := L7.cells
     obtain ⟨_, _, _, _, k4⟩ := L7.frees
     have ll7 := L7.lt
     have L8 : RgAt (w7.setCell ⟨L, 4, none⟩ (.slice (some ⟨g7, 0, none⟩) (k + 1) cap7)) L id a b c (some ⟨g7, 0, none⟩) (k + 1) cap7 := rg_set L7 _ _ _
     have z8 : RgAt (w7.setCell ⟨L, 4, none⟩ (.slice (some ⟨g7, 0, none⟩) (k + 1) cap7)) z 0 0 0 0 none 0 0 := z7.far (p := ⟨L, 4, none⟩) (by show L ≠ z; omega) _
     have x8 := x7.far (p := ⟨L, 4, none⟩) (by show L ≠ x; omega) (.slice (some ⟨g7, 0, none⟩) (k + 1) cap7)
     have own8 := owns_set own7 (p := ⟨L, 4, none⟩) (by show L < L + 1; omega) (.slice (some ⟨g7, 0, none⟩) (k + 1) cap7)
     have B8 : Below w.heap.size w (w7.setCell ⟨L, 4, none⟩ (.slice (some ⟨g7, 0, none⟩) (k + 1) cap7)) := B7.setCell (p := ⟨L, 4, none⟩) hLw _
     refine tZ (i:=6) (v:=?_) rfl (.inl ⟨by rfl, ?_⟩) hHeld ?_
     rotate_left
     ·(intro w hSw; (try dsimp only at hSw); go_simp; try (with_reducible rfl))
     (try simp only [Act.put, zZ])
     refine wpAnyH_ready (rs := [7]) (by kernel_rfl) (by simp) ?_
     refine AllReadyH.cons (o := _) rfl (fun K hK => ?_) AllReadyH.nil
     go_simp
     skip
     refine hK.out _ _ ?_ (fun hHeld2 => ?_)
     ·exact x8
     clear hK K hHeld
     have hHeld := hHeld2
     clear hHeld2
     (try simp only [Act.put, zZ])
     refine wpAnyH_done (by kernel_rfl) ?_ _
     generalize w7.setCell ⟨L, 4, none⟩ (.slice (some ⟨g7, 0, none⟩) (k + 1) cap7) = W8 at L8 z8 own8 B8 ⊢
     have own9 : W8.ownsRow (L + 1) 38 13 (.slice (some ⟨g7, 0, none⟩) (k + 1) cap7) (k + 1) (ucL (us.take (k + 1))) := by rw [HT.out]; exact own8
     go_wp2_with fail
     exact ⟨⟨k + 1, some ⟨g7, 0, none⟩, cap7, by omega, by go_num, B8, L8, z8, own9⟩, by simp [intOf]; omega⟩
  ·have hkm : k = m := by omega
   subst hkm
   obtain ⟨d0, d1, d2, d3, d4⟩ := LL.cells
   obtain ⟨f0, f1, f2, f3, f4⟩ := zz.frees
   obtain ⟨e0, e1, e2, e3, e4⟩ := zz.cells
   have hmu : MU wr xv k xc (L + 1) wr.heap.size (ucell us) := by
    have hl : us.take k = us := by rw [← hU.hlen, List.take_length]
    rw [hl] at own
    have hl2 : us.length = k := hU.hlen
    rw [← hl2] at own ⊢
    obtain ⟨v9, c9, e9, m9⟩ := MU.of_owns own
    injection e9 with e9 _ e10
    rw [e9, e10]; exact m9
   have hzq : ∀ q, xv = some q → ¬ q.block = z := fun q hq => by
    rcases hmu.2.2 with ⟨_, e⟩ | ⟨g, e, h1, _, _⟩
    ·rw [e] at hq; cases hq
    ·rw [e] at hq; cases hq; show ¬ g = z; omega
   have zf := zz.put id a b c xv k xc
   have hBz := bel_put5 hB hzw (.int .i64 id) (.int .i64 a) (.int .i64 b) (.int .i64 c) (.slice xv k xc)
   have hmz := mu_put5 hmu hzq (.int .i64 id) (.int .i64 a) (.int .i64 b) (.int .i64 c) (.slice xv k xc)
   go_wp2_with fail
   obtain ⟨Wz, hWz⟩ : ∃ W, ((((wr.setCell ⟨z, 0, none⟩ (.int .i64 id)).setCell ⟨z, 1, none⟩ (.int .i64 a)).setCell ⟨z, 2, none⟩ (.int .i64 b)).setCell ⟨z, 3, none⟩ (.int .i64 c)).setCell ⟨z, 4, none⟩ (.slice xv k xc) = W := ⟨_, rfl⟩
   rw [hWz] at zf hBz hmz ⊢
   clear hWz f0 f1 f2 f3 f4 e0 e1 e2 e3 e4 d0 d1 d2 d3 d4
   obtain ⟨v0, v1, v2, v3, v4⟩ := zf.cells
   refine bodyPost_ret (v := .agg #[.int .i64 id, .int .i64 a, .int .i64 b, .int .i64 c, .slice xv k xc]) (by simp [results, Tryz.results46, go_sem, v0, v1, v2, v3, v4]) rfl ?_
   exact ⟨⟨xv, xc, rfl, ⟨hmz.1, hmz.2.1, hmz.2.2.imp (fun h => h) fun ⟨g, e, h1, h2, r⟩ => ⟨g, e, by omega, h2, r⟩⟩⟩, hBz⟩

end Go.Proofs.YtccendmoeelniaaGreatDoor
