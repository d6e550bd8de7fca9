/-
  Texts of one proof, joined: AgreeI.
-/
import Derived.Test.YtgcinolbkllkkaaGreatZXWorldOk10
import Derived.Test.YtgcinolbkllkkaaGreatZXWorldOk14
namespace Go.Proofs.YtgcinolbkllkkaaGreat
open Go.ChangeShapes Go.WideShapes Go.ChangeAt Go.RowKit
set_option linter.unusedSimpArgs false
set_option linter.unusedVariables false
attribute [local go_sem] run_makeMap
set_option maxHeartbeats 4000000 in
set_option maxRecDepth 100000 in
theorem setFrom_any (av : Option Addr) (n cn : Nat) (us : List M1.Upd) (w : World) (h1 : IsUpds w av n cn us) (ha : Hid (M1.apart us)) :
  Calls Tryz.prog 33 #[.slice av n cn] w fun e w' => (∃ b, e = .returned (.map (some b)) ∧ w.heap.size ≤ b ∧ MapIs w' b us) ∧ Below w.heap.size w w' := by
 have hm1 := h1.hcap
 have hm2 := h1.hmost
 have hl1 : Hid (us.length = n) := h1.hlen
 unfold maxLen at hm2
 go_enter Tryz.func33, Tryz.ntmps33
 go_wp2_with fail
 have hA : Below w.heap.size w (w.alloc (.map #[] 0)) := (Below.refl _ _).alloc (Nat.le_refl _) _
 have hM : MapIs (w.alloc (.map #[] 0)) w.heap.size [] := MapIs.made w
 go_loopw [9] (fun i wr => ∃ (k : Nat) (l : List M1.Upd), k ≤ n ∧ i = .int .i64 k ∧ Below w.heap.size w wr ∧ Hid (l = us.take k) ∧ MapIs wr w.heap.size l) (fun i _ => n - (intOf i).toNat)
 case atStart => exact ⟨0, [], Nat.zero_le _, rfl, hA, (rfl : [] = us.take 0), hM⟩
 case round =>
  clear hA hM
  obtain ⟨k, l, hk, rfl, hB, hl, hmap⟩ := hrel
  have hs0 := hmap.lt
  by_cases hlt : k < n
  ·have g1 := h1.below hB
   rcases g1.hlies with h0 | ⟨b, off, rfl, hb, hc⟩
   ·omega
   obtain ⟨c0, c1, c2, c3, c4, c5, c6, c7, c8, c9, c10, c11, c12⟩ := hc k hlt
   have i0 : (0 : Int) ≤ (k : Int) := by omega
   have i1 : (k : Int) < (n : Int) := by omega
   clear hc g1
   have hfd : Hid (M1.fd l (M1.up us k).dr (M1.up us k).dn = none) := (by rw [hl.out]; exact M1.fd_take ha.out (by have := hl1.out; omega) : M1.fd l (M1.up us k).dr (M1.up us k).dn = none)
   have hl' : Hid (l ++ [M1.up us k] = us.take (k + 1)) := (by rw [hl.out]; exact (M1.take_up (by have := hl1.out; omega)).symm : l ++ [M1.up us k] = us.take (k + 1))
   go_wp2_with (at_mapUpdate; refine wpList_mapU rfl _ _ _ rfl w.heap.size l (M1.up us k) rfl (hmap.alloc _) hfd.out rfl rfl ?_; intro w1 hm1 hg1)
   refine ⟨⟨k + 1, _, by omega, by go_num, (hB.alloc hB.size _).grown hg1 (by simp; omega) (fun j e => by cases e; omega), hl', hm1⟩, by simp [intOf]; omega⟩
  ·have hkn : k = us.length := by have := hl1.out; omega
   go_wp2_with fail
   go_ret
   refine ⟨⟨_, rfl, Nat.le_refl _, ?_⟩, hB⟩
   have e := hl.out
   rw [hkn, List.take_length] at e
   rw [← e]; exact hmap

theorem wpList_lookV {w : World} {ops : Array Oper} {rest : List Oper} {o : Oper} {a : Act} {Q : Exit → Act → World → Prop}
  (hg : o.guard = none) (m x : Operand) (hop : o.op = Op.lookup 58 m x true) (b : Nat) (us : List M1.Upd) (r n : Int)
  (hm : a.eval m = .map (some b)) (hown : MapIs w b us) (hx : a.eval x = dv r n) (p : M1.Upd) (q : Bool) (hp : (M1.fd us r n).getD M1.zeroU = p) (hq : (M1.fd us r n).isSome = q)
  (hK : wpList Tryz.prog ops Q rest (a.put o.dst (.tuple #[.agg #[.int .i64 p.dr, .int .i64 p.dn, .int .i64 p.sw, .int .i64 p.sc, .int .i64 p.sr, .int .i64 p.k, .int .i64 p.tr, .int .i64 p.id, .int .i64 p.pa, .string p.s, .int .i64 p.st, .int .i64 p.en, .int .i64 p.lv], .bool q])) w) :
  wpList Tryz.prog ops Q (o :: rest) a w := wpList_lookU hg m x hop b us r n hm hown hx p q hp hq hK

attribute [local go_sem high] eqU
set_option maxHeartbeats 8000000 in
set_option maxRecDepth 100000 in
theorem agree_impl (av : Option Addr) (n cn : Nat) (us : List M1.Upd) (bv : Option Addr) (m cm : Nat) (vs : List M1.Upd) (w : World) (h1 : IsUpds w av n cn us) (h2 : IsUpds w bv m cm vs) :
  Calls Tryz.prog 9 #[.slice av n cn, .slice bv m cm] w fun e w' => e = .returned (.bool (M1.agreeB us vs)) ∧ Below w.heap.size w w' := by
 have hm3 := h2.hcap
 have hm4 := h2.hmost
 have hl2 : Hid (vs.length = m) := h2.hlen
 unfold maxLen at hm4
 by_cases hs1 : M1.setOk us = true
 ·by_cases hs2 : M1.setOk vs = true
  ·have hap : Hid (M1.apart us) := M1.ok_apart (M1.setOk_all hs1)
   have HB : M1.agreeB us vs = decide (M1.agreeTo us vs vs.length) := by unfold M1.agreeB; rw [hs1, hs2]; rfl
   obtain ⟨q, hq⟩ : ∃ q, decide (M1.agreeTo us vs vs.length) = q := ⟨_, rfl⟩
   have HQ : Hid (decide (M1.agreeTo us vs vs.length) = q) := hq
   rw [HB, hq]
   clear HB hq
   go_enter Tryz.func9, Tryz.ntmps9
   go_wp2_with fail
   refine (setOk_impl _ _ _ _ _ h1).mono ?_
   rw [hs1]
   rintro e w1 ⟨rfl, hb1⟩
   go_wp2_with fail
   refine (setOk_impl _ _ _ _ _ (h2.below hb1)).mono ?_
   rw [hs2]
   rintro e w2 ⟨rfl, hb2⟩
   have hB2 := hb1.trans (hb2.mono hb1.size)
   go_wp2_with fail
   refine (setFrom_any _ _ _ _ _ (h1.below hB2) hap).mono ?_
   rintro e w3 ⟨⟨g, rfl, hg, hmap⟩, hb3⟩
   have hB3 := hB2.trans (hb3.mono hB2.size)
   have hgl := hmap.lt
   have hgw : w.heap.size ≤ g := Nat.le_trans hB2.size hg
   clear hs1 hs2 hb1 hb2 hb3 hg
   go_wp2_with fail
   go_loopw [22] (fun i wr => ∃ (k : Nat), k ≤ m ∧ i = .int .i64 k ∧ Below w3.heap.size w3 wr ∧ Hid (M1.agreeTo us vs k)) (fun i _ => m - (intOf i).toNat)
   case atStart => exact ⟨0, Nat.zero_le _, rfl, Below.refl _ _, fun i hi => absurd hi (Nat.not_lt_zero _)⟩
   case round =>
    obtain ⟨k, hk, rfl, hB0, hall⟩ := hrel
    have hB : Below w.heap.size w wr := hB3.trans (hB0.mono hB3.size)
    have hmr := hmap.below hB0 hgl
    have hsz := hB0.size
    by_cases hlt : k < m
    ·have g2 := h2.below hB
     rcases g2.hlies with h0 | ⟨b, off, rfl, hb, hc⟩
     ·omega
     obtain ⟨c0, c1, c2, c3, c4, c5, c6, c7, c8, c9, c10, c11, c12⟩ := hc k hlt
     have i0 : (0 : Int) ≤ (k : Int) := by omega
     have i1 : (k : Int) < (m : Int) := by omega
     clear hc g2
     cases hf : M1.fd us (M1.up vs k).dr (M1.up vs k).dn with
     | none =>
      have HN : Hid (M1.agreeTo us vs (k + 1)) := M1.agreeTo_succ hall.out (M1.agree_none hf)
      have hf' : Hid (M1.fd us (M1.up vs k).dr (M1.up vs k).dn = none) := hf
      clear hf
      go_wp2_with (at_lookup; refine wpList_lookV rfl _ _ rfl g us (M1.up vs k).dr (M1.up vs k).dn rfl (hmr.alloc _) rfl M1.zeroU false (by rw [hf'.out]; rfl) (by rw [hf'.out]; rfl) ?_)
      refine ⟨⟨k + 1, by omega, by go_num, ?_, HN⟩, by simp [intOf]; omega⟩
      repeat (first | (with_reducible exact Below.refl _ _) | ((with_reducible refine Below.setCell ?_ ?_ _); rotate_left; (focus (first | omega | (simp; done) | (simp; omega)))) | ((with_reducible refine Below.alloc ?_ ?_ _); rotate_left; (focus (first | omega | (simp; done) | (simp; omega)))) | (with_reducible refine Below.drew ?_) | ((with_reducible refine Below.trans ?_ (Below.mono hB0 ?_)); rotate_left; (focus (first | omega | (simp; done) | (simp; omega)))))
     | some x =>
      have hf' : Hid (M1.fd us (M1.up vs k).dr (M1.up vs k).dn = some x) := hf
      clear hf
      by_cases he : M1.ueq x (M1.up vs k) = true
      ·have HN : Hid (M1.agreeTo us vs (k + 1)) := M1.agreeTo_succ hall.out (M1.agree_some hap.out hf'.out he)
       go_wp2_with (at_lookup; refine wpList_lookV rfl _ _ rfl g us (M1.up vs k).dr (M1.up vs k).dn rfl (hmr.alloc _) rfl x true (by rw [hf'.out]; rfl) (by rw [hf'.out]; rfl) ?_)
       refine ⟨⟨k + 1, by omega, by go_num, ?_, HN⟩, by simp [intOf]; omega⟩
       repeat (first | (with_reducible exact Below.refl _ _) | ((with_reducible refine Below.setCell ?_ ?_ _); rotate_left; (focus (first | omega | (simp; done) | (simp; omega)))) | ((with_reducible refine Below.alloc ?_ ?_ _); rotate_left; (focus (first | omega | (simp; done) | (simp; omega)))) | (with_reducible refine Below.drew ?_) | ((with_reducible refine Below.trans ?_ (Below.mono hB0 ?_)); rotate_left; (focus (first | omega | (simp; done) | (simp; omega)))))
      ·replace he : M1.ueq x (M1.up vs k) = false := by simpa using he
       have HN : Hid (q = false) := (by
        rw [← HQ.out]
        exact decide_eq_false (fun h => M1.agree_not hf'.out he (h k (by have := hl2.out; omega))) : q = false)
       go_wp2_with (at_lookup; refine wpList_lookV rfl _ _ rfl g us (M1.up vs k).dr (M1.up vs k).dn rfl (hmr.alloc _) rfl x true (by rw [hf'.out]; rfl) (by rw [hf'.out]; rfl) ?_)
       refine bodyPost_ret (v := .bool false) (by simp [results, Tryz.results9, go_sem]) rfl ⟨by rw [HN.out], ?_⟩
       repeat (first | (with_reducible exact Below.refl _ _) | ((with_reducible refine Below.setCell ?_ ?_ _); rotate_left; (focus (first | omega | (simp; done) | (simp; omega)))) | ((with_reducible refine Below.alloc ?_ ?_ _); rotate_left; (focus (first | omega | (simp; done) | (simp; omega)))) | (with_reducible refine Below.drew ?_) | ((with_reducible refine Below.trans ?_ (Below.mono hB ?_)); rotate_left; (focus (first | omega | (simp; done) | (simp; omega)))))
    ·have HN : Hid (q = true) := (by
      rw [← HQ.out]
      have e : vs.length = k := by have := hl2.out; omega
      rw [e]; exact decide_eq_true hall.out : q = true)
     go_wp2_with fail
     refine bodyPost_ret (v := .bool true) (by simp [results, Tryz.results9, go_sem]) rfl ⟨by rw [HN.out], hB⟩
  ·replace hs2 : M1.setOk vs = false := by simpa using hs2
   have HB : M1.agreeB us vs = false := by unfold M1.agreeB; rw [hs1, hs2]; rfl
   rw [HB]
   go_enter Tryz.func9, Tryz.ntmps9
   go_wp2_with fail
   refine (setOk_impl _ _ _ _ _ h1).mono ?_
   rw [hs1]
   rintro e w1 ⟨rfl, hb1⟩
   go_wp2_with fail
   refine (setOk_impl _ _ _ _ _ (h2.below hb1)).mono ?_
   rw [hs2]
   rintro e w2 ⟨rfl, hb2⟩
   have hB2 := hb1.trans (hb2.mono hb1.size)
   go_wp2_with fail
   go_ret
   exact ⟨rfl, hB2⟩
 ·replace hs1 : M1.setOk us = false := by simpa using hs1
  have HB : M1.agreeB us vs = false := by unfold M1.agreeB; rw [hs1]; rfl
  rw [HB]
  go_enter Tryz.func9, Tryz.ntmps9
  go_wp2_with fail
  refine (setOk_impl _ _ _ _ _ h1).mono ?_
  rw [hs1]
  rintro e w1 ⟨rfl, hb1⟩
  go_wp2_with fail
  go_ret
  exact ⟨rfl, hb1⟩

end Go.Proofs.YtgcinolbkllkkaaGreat
