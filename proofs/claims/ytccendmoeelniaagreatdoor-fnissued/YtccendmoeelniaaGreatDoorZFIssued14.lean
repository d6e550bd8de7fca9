/-
  Texts of one proof, joined: Level, Upd1.
-/
import Derived.Test.YtccendmoeelniaaGreatDoorZFIssued13
import Derived.Test.YtccendmoeelniaaGreatDoorZFIssued08
import Derived.Test.YtccendmoeelniaaGreatDoorZFIssued02
import Derived.Test.YtccendmoeelniaaGreatDoorZFIssued00
namespace M1
def lvl (xs : List Upd) : Int := xs.foldl (fun m u => max m u.lv) 0

theorem lvl_snoc (xs : List Upd) (u : Upd) : lvl (xs ++ [u]) = max (lvl xs) u.lv := by simp [lvl]

def levelOf (us : List Upd) (tr : Int) : Int := if setOk us = true then lvl (ofT 3 tr us us.length) else -1

end M1
namespace Go.Proofs.YtccendmoeelniaaGreatDoor
open Go.ChangeShapes Go.WideShapes Go.ChangeAt Go.RowKit Go.Shelf
set_option linter.unusedSimpArgs false
attribute [local go_sem] Oper.semAt_some
def UBox (W : World) (B : Nat) (u : M1.Upd) : Prop := W.heap[B]? = some (.cells #[.int .i64 u.dr, .int .i64 u.dn, .int .i64 u.sw, .int .i64 u.sc, .int .i64 u.sr, .int .i64 u.k, .int .i64 u.tr, .int .i64 u.id, .int .i64 u.pa, .string u.s, .int .i64 u.st, .int .i64 u.en, .int .i64 u.lv] 38 (0, 0))

theorem UBox.lt {W : World} {B : Nat} {u : M1.Upd} (h : UBox W B u) : B < W.heap.size := (Array.getElem?_eq_some_iff.1 h).1

theorem UBox.new (W : World) (u : M1.Upd) : UBox (W.alloc (.cells #[.int .i64 u.dr, .int .i64 u.dn, .int .i64 u.sw, .int .i64 u.sc, .int .i64 u.sr, .int .i64 u.k, .int .i64 u.tr, .int .i64 u.id, .int .i64 u.pa, .string u.s, .int .i64 u.st, .int .i64 u.en, .int .i64 u.lv] 38)) W.heap.size u := World.alloc_heap_new W _

theorem ubox_own {β : Type} (B : Nat) (f : β → M1.Upd) : Own (fun s W => UBox W B (f s)) := fun s X Y row hs hg hrow =>
 (hg.block B hs.lt (fun e' => by obtain ⟨o, ho, hc⟩ := hrow B e'.symm; rw [show X.heap[B]? = _ from hs] at ho; cases ho; cases hc)).trans hs

theorem ofTrace_stops (F : Fence) (n : Nat) (hF : F.fn 100) (hro : F.round = none) (hn : 1 ≤ n) (B : Nat) (av : Option Addr) (len cap : Nat) (kd tr : Int) (us : List M1.Upd) (W0 : World) (h1 : IsUpds W0 av len cap us) (w : World) (hB0 : Below W0.heap.size W0 w) (hBs : B + 3 ≤ w.heap.size)
  (b0 : w.cell? ⟨B, 0, none⟩ = some (.slice av len cap)) (b1 : w.cell? ⟨B + 1, 0, none⟩ = some (.int .i64 kd)) (b2 : w.cell? ⟨B + 1 + 1, 0, none⟩ = some (.int .i64 tr)) :
  SeqStopsK F n Tryz.prog 100 #[.pointer (some ⟨B, 0, none⟩), .pointer (some ⟨B + 1, 0, none⟩), .pointer (some ⟨B + 1 + 1, 0, none⟩)] (fun x : M1.Upd => #[Value.agg #[.int .i64 x.dr, .int .i64 x.dn, .int .i64 x.sw, .int .i64 x.sc, .int .i64 x.sr, .int .i64 x.k, .int .i64 x.tr, .int .i64 x.id, .int .i64 x.pa, .string x.s, .int .i64 x.st, .int .i64 x.en, .int .i64 x.lv]]) (KpI W0.heap.size B) (fun ys => ys = M1.ofT kd tr us len) (fun pre => ∃ k, k ≤ len ∧ pre = M1.ofT kd tr us k) len w := fun l J Jx W hW hAJ _ hY h0 =>
 ofTrace1_in F n hF hro hn l B W0.heap.size av len cap kd tr us W0 rfl h1 J Jx W.heap.size hAJ hY W (hB0.trans (hW.mono hB0.size)) (by have := hW.size; omega)
  ((hW.cell (p := ⟨B, 0, none⟩) (by show B < w.heap.size; omega)).trans b0) ((hW.cell (p := ⟨B + 1, 0, none⟩) (by show B + 1 < w.heap.size; omega)).trans b1) ((hW.cell (p := ⟨B + 1 + 1, 0, none⟩) (by show B + 1 + 1 < w.heap.size; omega)).trans b2) h0

set_option maxRecDepth 100000 in
set_option maxHeartbeats 4000000 in
theorem levelOf_impl (av : Option Addr) (n cn : Nat) (us : List M1.Upd) (tr : Int) (w : World) (h1 : IsUpds w av n cn us) :
  Calls Tryz.prog 26 #[.slice av n cn, .int .i64 tr] w fun e w' => e = .returned (.int .i64 (M1.levelOf us tr)) ∧ Below w.heap.size w w' := by
 have hl1 : Hid (us.length = n) := h1.hlen
 refine (callsIn_wide (n := 6)).1 ?_
 by_cases hs : M1.setOk us = true
 ·have HQ : Hid (M1.levelOf us tr = M1.lvl (M1.ofT 3 tr us n)) := (by unfold M1.levelOf; rw [if_pos hs, hl1.out] : M1.levelOf us tr = M1.lvl (M1.ofT 3 tr us n))
  refine callsIn_of_wp_marks Tryz.func26 rfl trivial ?_ rfl
  simp only [Tryz.ntmps26, List.size_toArray, List.length_cons, List.length_nil, Nat.reduceAdd, Nat.reduceSub, Array.replicate_succ, Array.replicate_zero, List.push_toArray, List.append_toArray, List.nil_append, List.cons_append]
  gi_wp2_with fail
  refine ⟨trivial, ?_⟩
  refine (callsIn_wide.2 (setOk_impl _ _ _ _ _ h1)).mono ?_
  rw [hs]
  rintro e w1 ⟨rfl, hb1⟩
  gi_wp2_with fail
  refine ⟨trivial, ?_⟩
  refine (ofTrace_in Fence.wide 5 trivial rfl _ _ _ _ _ _).mono ?_
  rintro e w2 ⟨rfl, rfl⟩
  simp only [World.size_alloc]
  have bL := (((Boxed.new w1 2 (.int .i64 0)).alloc (.cells #[.slice av n cn] 26)).alloc (.cells #[.int .i64 3] 2)).alloc (.cells #[.int .i64 tr] 2)
  have b0 := ((Boxed.new (w1.alloc (.cells #[.int .i64 0] 2)) 26 (.slice av n cn)).alloc (.cells #[.int .i64 3] 2)).alloc (.cells #[.int .i64 tr] 2)
  have b1 := (Boxed.new ((w1.alloc (.cells #[.int .i64 0] 2)).alloc (.cells #[.slice av n cn] 26)) 2 (.int .i64 3)).alloc (.cells #[.int .i64 tr] 2)
  have b2 := Boxed.new (((w1.alloc (.cells #[.int .i64 0] 2)).alloc (.cells #[.slice av n cn] 26)).alloc (.cells #[.int .i64 3] 2)) 2 (.int .i64 tr)
  simp only [World.size_alloc] at b0 b1 b2
  have hs1 := hb1.size
  have hB0 : Below w.heap.size w ((((w1.alloc (.cells #[.int .i64 0] 2)).alloc (.cells #[.slice av n cn] 26)).alloc (.cells #[.int .i64 3] 2)).alloc (.cells #[.int .i64 tr] 2)) := (((hb1.alloc hb1.size _).alloc (by simp; omega) _).alloc (by simp; omega) _).alloc (by simp; omega) _
  have hsz : ((((w1.alloc (.cells #[.int .i64 0] 2)).alloc (.cells #[.slice av n cn] 26)).alloc (.cells #[.int .i64 3] 2)).alloc (.cells #[.int .i64 tr] 2)).heap.size = w1.heap.size + 4 := by simp
  obtain ⟨W0, hW0⟩ : ∃ W0, (((w1.alloc (.cells #[.int .i64 0] 2)).alloc (.cells #[.slice av n cn] 26)).alloc (.cells #[.int .i64 3] 2)).alloc (.cells #[.int .i64 tr] 2) = W0 := ⟨_, rfl⟩
  rw [hW0] at bL b0 b1 b2 hB0 hsz ⊢
  clear hW0
  gi_wp2_with fail
  refine wpIn_rangeFunc_ownH rfl (by omega) (gf := 100) (lb := #[.pointer (some ⟨w1.heap.size + 1, 0, none⟩), .pointer (some ⟨w1.heap.size + 1 + 1, 0, none⟩), .pointer (some ⟨w1.heap.size + 1 + 1 + 1, 0, none⟩)]) rfl trivial (enters_of Tryz.func100 (by kernel_rfl) rfl)
   (ofTrace_stops Fence.wide _ trivial rfl (by omega) (w1.heap.size + 1) av n cn 3 tr us w h1 W0 hB0 (by omega) b0.cell b1.cell b2.cell) kpI_t (kpI_put (by omega) (by omega)) (Below.refl _ _) (fun _ => rfl)
   (fun pre W => (Boxed W w1.heap.size 2 (.int .i64 (M1.lvl pre)) ∧ Below w.heap.size w W) ∧ W0.heap.size ≤ W.heap.size)
   (fun _ _ _ => False)
   (OwnFrom.and (OwnFrom.and (Own.from (boxed_own _ _ _) _) (ownFrom_below (Nat.le_refl _) (by omega))) (fun _ _ _ _ hs hg _ => Nat.le_trans hs hg.size))
   (fun _ _ _ _ _ hs _ _ => hs)
   ⟨⟨bL, hB0⟩, Nat.le_refl _⟩
   (fun x a' W => ∃ Bx, w1.heap.size + 3 < Bx ∧ UBox W Bx x ∧ a' = { tmps := #[.slice av n cn, .int .i64 tr, undef, undef, .int .i64 0, .pointer (some ⟨w1.heap.size, 0, none⟩), .pointer (some ⟨Bx, 0, none⟩), .slice av n cn, .bool true, .bool false, .slice av n cn, .int .i64 tr, .func (.func 100) #[] #[.pointer (some ⟨w1.heap.size + 1, 0, none⟩), .pointer (some ⟨w1.heap.size + 1 + 1, 0, none⟩), .pointer (some ⟨w1.heap.size + 1 + 1 + 1, 0, none⟩)], .agg #[.int .i64 x.dr, .int .i64 x.dn, .int .i64 x.sw, .int .i64 x.sc, .int .i64 x.sr, .int .i64 x.k, .int .i64 x.tr, .int .i64 x.id, .int .i64 x.pa, .string x.s, .int .i64 x.st, .int .i64 x.en, .int .i64 x.lv], undef, undef, undef, undef, undef], defers := [] })
   (fun x a' _ X Y row hs hg hr => by obtain ⟨Bx, h1, h2, h3⟩ := hs; exact ⟨Bx, h1, ubox_own Bx (fun (_ : Unit) => x) () X Y row h2 hg (fun r e => (hr r e).2), h3⟩)
   ?assign ?body ?done ?stop
  case assign =>
   rintro l pre x W K ⟨⟨bL1, hB1⟩, hz1⟩ hK
   gi_wp2
   exact hK _ _ ((KeepsOthers.alloc _ _).from _) (kpI_alloc hB1.size (by omega) _) ⟨⟨bL1.alloc _, hB1.alloc hB1.size _⟩, by simp; omega⟩ ⟨W.heap.size, by omega, UBox.new W x, rfl⟩
  case body =>
   rintro l pre x a' W hl ⟨r, hr⟩ ⟨⟨bL1, hB1⟩, hz1⟩ ⟨Bx, hBx, bX, rfl⟩ hlt
   have cL := bL1.cell
   have fL := bL1.frozen
   have cX : W.cell? ⟨Bx, 12, none⟩ = some (.int .i64 x.lv) := by simp [World.cell?, show W.heap[Bx]? = _ from bX]
   gi_wp2
   all_goals
    (exact ⟨(KeepsOthers.setCell _ _ _).from _, ⟨(Below.refl _ W).setCell (p := ⟨w1.heap.size, 0, none⟩) hs1 _, fun b o h1 h2 => World.cell?_setCell_other _ _ _ _ (by intro e; injection e with e1; omega)⟩, ⟨by rw [M1.lvl_snoc]; first | (rw [(by omega : max (M1.lvl pre) x.lv = x.lv)]; exact bL1.set _) | (rw [(by omega : max (M1.lvl pre) x.lv = M1.lvl pre)]; exact bL1.set _), hB1.setCell (p := ⟨w1.heap.size, 0, none⟩) hs1 _⟩, by simp [World.setCell]; omega⟩)
  case done =>
   rintro D zs W hD rfl ⟨⟨bL1, hB1⟩, hz1⟩ hK
   have cL := bL1.cell
   gi_wp2
   refine ⟨by simp, .inl ⟨_, _, rfl, run_takeDeferred hK, ?_⟩⟩
   exact ⟨_, results_tmp rfl _ _ _, by rw [HQ.out]; rfl, hB1.trans (belowK_b (w := w) (Nat.le_refl _) W D _ _ (by omega) hK rfl rfl)⟩
  case stop =>
   rintro D c pre W _ _ h _
   exact h.elim
 ·replace hs : M1.setOk us = false := by simpa using hs
  have HQ : Hid (M1.levelOf us tr = -1) := (by unfold M1.levelOf; rw [hs]; rfl : M1.levelOf us tr = -1)
  refine callsIn_of_wp_marks Tryz.func26 rfl trivial ?_ rfl
  simp only [Tryz.ntmps26, List.size_toArray, List.length_cons, List.length_nil, Nat.reduceAdd, Nat.reduceSub, Array.replicate_succ, Array.replicate_zero, List.push_toArray, List.append_toArray, List.nil_append, List.cons_append]
  gi_wp2_with fail
  refine ⟨trivial, ?_⟩
  refine (callsIn_wide.2 (setOk_impl _ _ _ _ _ h1)).mono ?_
  rw [hs]
  rintro e w1 ⟨rfl, hb1⟩
  gi_wp2_with fail
  exact ⟨_, results_tmp rfl _ _ _, by rw [HQ.out]; rfl, hb1⟩

end Go.Proofs.YtccendmoeelniaaGreatDoor

namespace Go.Proofs.YtccendmoeelniaaGreatDoor
open Go.ChangeShapes Go.WideShapes Go.ChangeAt Go.RowKit
set_option linter.unusedSimpArgs false
set_option maxHeartbeats 8000000 in
set_option maxRecDepth 100000 in
theorem updateOk_spec (dr dn sw sc sr k tr id pa st en lv : Int) (s : ByteArray) (w : World) (hs : s.size ≤ maxLen) :
  Calls Tryz.prog 104 #[.agg #[.int .i64 dr, .int .i64 dn, .int .i64 sw, .int .i64 sc, .int .i64 sr, .int .i64 k, .int .i64 tr, .int .i64 id, .int .i64 pa, .string s, .int .i64 st, .int .i64 en, .int .i64 lv]] w fun e w' => e = .returned (.bool (M1.updB dr dn sw sc sr k tr id pa s st en lv)) ∧ Below w.heap.size w w' := by
 by_cases h1 : M1.dotOk dr dn = true
 ·by_cases h2 : M1.stOk sw sc sr = true
  ·by_cases h3 : sr = dr
   ·by_cases h4 : M1.inB tr 1 1000 = true
    ·have HU : Hid (M1.updB dr dn sw sc sr k tr id pa s st en lv = M1.kindB k id pa s st en lv) := (by unfold M1.updB M1.headB; rw [h1, h2, h4, decide_eq_true h3]; rfl : M1.updB dr dn sw sc sr k tr id pa s st en lv = M1.kindB k id pa s st en lv)
     rw [HU.out]
     clear HU
     subst h3
     go_enter Tryz.func104, Tryz.ntmps104
     go_wp2_with fail
     refine (l1Dot_any _ _ _).mono ?_
     rw [h1]
     rintro e w1 ⟨rfl, hb1⟩
     obtain ⟨hc1, hf1⟩ := bcell hb1
     have hs1 := hb1.size
     simp at hs1
     have hs1a : w.heap.size < w1.heap.size := by omega
     have hs1b : w.heap.size + 1 < w1.heap.size := by omega
     go_wp2_with fail
     refine (stampOk_spec _ _ _ _).mono ?_
     rw [h2]
     rintro e w2 ⟨rfl, hb2⟩
     have hB2 := hb1.trans (hb2.mono hb1.size)
     clear hc1 hf1
     obtain ⟨hc2, hf2⟩ := bcell hB2
     have hs2 := hB2.size
     simp at hs2
     have hs2a : w.heap.size < w2.heap.size := by omega
     have hs2b : w.heap.size + 1 < w2.heap.size := by omega
     go_wp2_with fail
     refine (l1In_any _ _ _ _).mono ?_
     rw [h4]
     rintro e w3 ⟨rfl, rfl⟩
     clear h1 h2 h4 hb1 hb2 hs1 hs1a hs1b
     by_cases k1 : k = 1
     ·subst k1
      go_wp2_with fail
      refine (spanOk_spec _ _ _ _ _ _ hs).mono ?_
      rintro e w4 ⟨rfl, hb4⟩
      have hB4 := hB2.trans (hb4.mono hB2.size)
      clear hc2 hf2
      obtain ⟨hc4, hf4⟩ := bcell hB4
      have hs4 := hB4.size
      simp at hs4
      have hs4a : w.heap.size < w4.heap.size := by omega
      go_wp2_with fail
      all_goals (go_ret)
      all_goals (refine ⟨?_, ?_⟩)
      all_goals (first | ((repeat (first | (with_reducible exact Below.refl _ _) | ((with_reducible refine Below.setCell ?_ ?_ _); rotate_left; (focus (first | omega | (simp; done) | (simp; omega)))) | ((with_reducible refine Below.alloc ?_ ?_ _); rotate_left; (focus (first | omega | (simp; done) | (simp; omega)))) | (with_reducible refine Below.drew ?_) | ((with_reducible refine Below.trans ?_ (Below.mono hB4 ?_)); rotate_left; (focus (first | omega | (simp; done) | (simp; omega)))))); done) | (simp [M1.kindB, M1.zeroB, *]; done) | skip)
     ·have b1 : (k == 1) = false := by simp [k1]
      by_cases k2 : k = 2
      ·subst k2
       go_wp2_with fail
       all_goals (go_ret)
       all_goals (refine ⟨?_, ?_⟩)
       all_goals (first | ((repeat (first | (with_reducible exact Below.refl _ _) | ((with_reducible refine Below.setCell ?_ ?_ _); rotate_left; (focus (first | omega | (simp; done) | (simp; omega)))) | ((with_reducible refine Below.alloc ?_ ?_ _); rotate_left; (focus (first | omega | (simp; done) | (simp; omega)))) | (with_reducible refine Below.drew ?_) | ((with_reducible refine Below.trans ?_ (Below.mono hB2 ?_)); rotate_left; (focus (first | omega | (simp; done) | (simp; omega)))))); done) | (simp [M1.kindB, M1.zeroB, *]; done) | skip)
      ·have b2 : (k == 2) = false := by simp [k2]
       by_cases k3 : k = 3
       ·subst k3
        go_wp2_with ((go_at_call 65; refine (l1In_any _ _ _ _).mono ?_; rintro e w' ⟨rfl, rfl⟩))
        all_goals (go_ret)
        all_goals (refine ⟨?_, ?_⟩)
        all_goals (first | ((repeat (first | (with_reducible exact Below.refl _ _) | ((with_reducible refine Below.setCell ?_ ?_ _); rotate_left; (focus (first | omega | (simp; done) | (simp; omega)))) | ((with_reducible refine Below.alloc ?_ ?_ _); rotate_left; (focus (first | omega | (simp; done) | (simp; omega)))) | (with_reducible refine Below.drew ?_) | ((with_reducible refine Below.trans ?_ (Below.mono hB2 ?_)); rotate_left; (focus (first | omega | (simp; done) | (simp; omega)))))); done) | (simp [M1.kindB, M1.zeroB, *]; done) | skip)
       ·have b3 : (k == 3) = false := by simp [k3]
        have HK : Hid (M1.kindB k id pa s st en lv = false) := (by unfold M1.kindB; rw [if_neg k1, if_neg k2, if_neg k3] : M1.kindB k id pa s st en lv = false)
        clear k1 k2 k3
        go_wp2_with fail
        go_ret
        refine ⟨by rw [HK.out]; rfl, ?_⟩
        repeat (first | (with_reducible exact Below.refl _ _) | ((with_reducible refine Below.setCell ?_ ?_ _); rotate_left; (focus (first | omega | (simp; done) | (simp; omega)))) | ((with_reducible refine Below.alloc ?_ ?_ _); rotate_left; (focus (first | omega | (simp; done) | (simp; omega)))) | (with_reducible refine Below.drew ?_) | ((with_reducible refine Below.trans ?_ (Below.mono hB2 ?_)); rotate_left; (focus (first | omega | (simp; done) | (simp; omega)))))
    ·have HU : Hid (M1.updB dr dn sw sc sr k tr id pa s st en lv = false) := (by unfold M1.updB M1.headB; rw [Bool.eq_false_iff.2 h4]; simp : M1.updB dr dn sw sc sr k tr id pa s st en lv = false)
     replace h4 : M1.inB tr 1 1000 = false := by simpa using h4
     rw [HU.out]
     subst h3
     go_enter Tryz.func104, Tryz.ntmps104
     go_wp2_with fail
     refine (l1Dot_any _ _ _).mono ?_
     rw [h1]
     rintro e w1 ⟨rfl, hb1⟩
     obtain ⟨hc1, hf1⟩ := bcell hb1
     have hs1 := hb1.size
     simp at hs1
     have hs1a : w.heap.size < w1.heap.size := by omega
     have hs1b : w.heap.size + 1 < w1.heap.size := by omega
     go_wp2_with fail
     refine (stampOk_spec _ _ _ _).mono ?_
     rw [h2]
     rintro e w2 ⟨rfl, hb2⟩
     have hB2 := hb1.trans (hb2.mono hb1.size)
     clear hc1 hf1
     obtain ⟨hc2, hf2⟩ := bcell hB2
     have hs2 := hB2.size
     simp at hs2
     have hs2a : w.heap.size < w2.heap.size := by omega
     have hs2b : w.heap.size + 1 < w2.heap.size := by omega
     go_wp2_with fail
     refine (l1In_any _ _ _ _).mono ?_
     rw [h4]
     rintro e w3 ⟨rfl, rfl⟩
     go_wp2_with fail
     go_ret
     refine ⟨rfl, ?_⟩
     repeat (first | (with_reducible exact Below.refl _ _) | ((with_reducible refine Below.setCell ?_ ?_ _); rotate_left; (focus (first | omega | (simp; done) | (simp; omega)))) | ((with_reducible refine Below.alloc ?_ ?_ _); rotate_left; (focus (first | omega | (simp; done) | (simp; omega)))) | (with_reducible refine Below.drew ?_) | ((with_reducible refine Below.trans ?_ (Below.mono hB2 ?_)); rotate_left; (focus (first | omega | (simp; done) | (simp; omega)))))
   ·have HU : Hid (M1.updB dr dn sw sc sr k tr id pa s st en lv = false) := (by unfold M1.updB M1.headB; rw [decide_eq_false h3]; simp : M1.updB dr dn sw sc sr k tr id pa s st en lv = false)
    rw [HU.out]
    have b3 : (sr != dr) = true := by simp [h3]
    clear h3
    go_enter Tryz.func104, Tryz.ntmps104
    go_wp2_with fail
    refine (l1Dot_any _ _ _).mono ?_
    rw [h1]
    rintro e w1 ⟨rfl, hb1⟩
    obtain ⟨hc1, hf1⟩ := bcell hb1
    have hs1 := hb1.size
    simp at hs1
    have hs1a : w.heap.size < w1.heap.size := by omega
    have hs1b : w.heap.size + 1 < w1.heap.size := by omega
    go_wp2_with fail
    refine (stampOk_spec _ _ _ _).mono ?_
    rw [h2]
    rintro e w2 ⟨rfl, hb2⟩
    have hB2 := hb1.trans (hb2.mono hb1.size)
    clear hc1 hf1
    obtain ⟨hc2, hf2⟩ := bcell hB2
    have hs2 := hB2.size
    simp at hs2
    have hs2a : w.heap.size < w2.heap.size := by omega
    have hs2b : w.heap.size + 1 < w2.heap.size := by omega
    go_wp2_with fail
    go_ret
    refine ⟨rfl, ?_⟩
    repeat (first | (with_reducible exact Below.refl _ _) | ((with_reducible refine Below.setCell ?_ ?_ _); rotate_left; (focus (first | omega | (simp; done) | (simp; omega)))) | ((with_reducible refine Below.alloc ?_ ?_ _); rotate_left; (focus (first | omega | (simp; done) | (simp; omega)))) | (with_reducible refine Below.drew ?_) | ((with_reducible refine Below.trans ?_ (Below.mono hB2 ?_)); rotate_left; (focus (first | omega | (simp; done) | (simp; omega)))))
  ·have HU : Hid (M1.updB dr dn sw sc sr k tr id pa s st en lv = false) := (by unfold M1.updB M1.headB; rw [Bool.eq_false_iff.2 h2]; simp : M1.updB dr dn sw sc sr k tr id pa s st en lv = false)
   replace h2 : M1.stOk sw sc sr = false := by simpa using h2
   rw [HU.out]
   go_enter Tryz.func104, Tryz.ntmps104
   go_wp2_with fail
   refine (l1Dot_any _ _ _).mono ?_
   rw [h1]
   rintro e w1 ⟨rfl, hb1⟩
   obtain ⟨hc1, hf1⟩ := bcell hb1
   have hs1 := hb1.size
   simp at hs1
   have hs1a : w.heap.size < w1.heap.size := by omega
   have hs1b : w.heap.size + 1 < w1.heap.size := by omega
   go_wp2_with fail
   refine (stampOk_spec _ _ _ _).mono ?_
   rw [h2]
   rintro e w2 ⟨rfl, hb2⟩
   have hB2 := hb1.trans (hb2.mono hb1.size)
   clear hc1 hf1
   obtain ⟨hc2, hf2⟩ := bcell hB2
   have hs2 := hB2.size
   simp at hs2
   have hs2a : w.heap.size < w2.heap.size := by omega
   have hs2b : w.heap.size + 1 < w2.heap.size := by omega
   go_wp2_with fail
   go_ret
   refine ⟨rfl, ?_⟩
   repeat (first | (with_reducible exact Below.refl _ _) | ((with_reducible refine Below.setCell ?_ ?_ _); rotate_left; (focus (first | omega | (simp; done) | (simp; omega)))) | ((with_reducible refine Below.alloc ?_ ?_ _); rotate_left; (focus (first | omega | (simp; done) | (simp; omega)))) | (with_reducible refine Below.drew ?_) | ((with_reducible refine Below.trans ?_ (Below.mono hB2 ?_)); rotate_left; (focus (first | omega | (simp; done) | (simp; omega)))))
 ·have HU : Hid (M1.updB dr dn sw sc sr k tr id pa s st en lv = false) := (by unfold M1.updB M1.headB; rw [Bool.eq_false_iff.2 h1]; simp : M1.updB dr dn sw sc sr k tr id pa s st en lv = false)
  replace h1 : M1.dotOk dr dn = false := by simpa using h1
  rw [HU.out]
  go_enter Tryz.func104, Tryz.ntmps104
  go_wp2_with fail
  refine (l1Dot_any _ _ _).mono ?_
  rw [h1]
  rintro e w1 ⟨rfl, hb1⟩
  obtain ⟨hc1, hf1⟩ := bcell hb1
  have hs1 := hb1.size
  simp at hs1
  have hs1a : w.heap.size < w1.heap.size := by omega
  have hs1b : w.heap.size + 1 < w1.heap.size := by omega
  go_wp2_with fail
  go_ret
  refine ⟨rfl, ?_⟩
  repeat (first | (with_reducible exact Below.refl _ _) | ((with_reducible refine Below.setCell ?_ ?_ _); rotate_left; (focus (first | omega | (simp; done) | (simp; omega)))) | ((with_reducible refine Below.alloc ?_ ?_ _); rotate_left; (focus (first | omega | (simp; done) | (simp; omega)))) | (with_reducible refine Below.drew ?_) | ((with_reducible refine Below.trans ?_ (Below.mono hb1 ?_)); rotate_left; (focus (first | omega | (simp; done) | (simp; omega)))))

end Go.Proofs.YtccendmoeelniaaGreatDoor
