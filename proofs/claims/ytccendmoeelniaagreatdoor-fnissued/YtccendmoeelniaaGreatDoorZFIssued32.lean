/-
  Texts of one proof, joined: Told3, JdI, AllR, TkN.
-/
import Derived.Test.YtccendmoeelniaaGreatDoorZFIssued31
import Derived.Test.YtccendmoeelniaaGreatDoorZFIssued05
import Derived.Test.YtccendmoeelniaaGreatDoorZFIssued22
import Derived.Test.YtccendmoeelniaaGreatDoorZFIssued08
import Derived.Test.YtccendmoeelniaaGreatDoorZFIssued11
import Derived.Test.YtccendmoeelniaaGreatDoorZFIssued00
import Derived.Test.YtccendmoeelniaaGreatDoorZFIssued12
namespace Go.Proofs.YtccendmoeelniaaGreatDoor
open Go.ChangeShapes Go.WideShapes Go.ChangeAt Go.RowKit
set_option linter.unusedSimpArgs false
set_option linter.unusedVariables false
def lenOf : Value → Nat
 | .slice _ n _ => n
 | _ => 0

theorem owns_len {w : World} {base : Nat} {e : TypeId} {size n : Nat} {v : Value} {xs : List Value} (h : w.ownsRow base e size v n xs) : lenOf v = n ∧ ∃ a c, v = .slice a n c := by
 rcases h.2 with ⟨rfl, rfl⟩ | ⟨g, cap, cur, rfl, _⟩
 ·exact ⟨rfl, _, _, rfl⟩
 ·exact ⟨rfl, _, _, rfl⟩

theorem up_get {l : List M1.Upd} {i : Nat} (h : i < l.length) : M1.up l i = l[i] := by simp [M1.up, List.getD, h]

theorem owns_gr2 {w w' : World} {base g : Nat} {e : TypeId} {size n : Nat} {v : Value} {xs : List Value} (h : w.ownsRow base e size v n xs) (hg : Gr g w w') (hb : g < base) : w'.ownsRow base e size v n xs := by
 obtain ⟨h1, h2⟩ := h
 refine ⟨h1, h2.imp id fun ⟨k, cap, cur, hv, hk, hh, r⟩ => ⟨k, cap, cur, hv, hk, ?_, r⟩⟩
 have hlt : k < w.heap.size := by
  rcases Nat.lt_or_ge k w.heap.size with h | h
  ·exact h
  ·rw [Array.getElem?_eq_none h] at hh; cases hh
 rw [hg.block k hlt (fun e => by injection e with e; omega)]; exact hh

set_option maxHeartbeats 40000000 in
set_option maxRecDepth 100000 in
theorem told_any (b : Nat) (us : List M1.Upd) (w : World) (hM : MapN w b us) (hsh : ∀ i, i < us.length → (M1.up us i).s.size ≤ 1000) (hn : us.length ≤ 1000) :
  Calls Tryz.prog 64 #[.map (some b)] w fun e w' => ∃ (ns : List M1.Upd), ns.Perm us ∧ (∀ i j, i < j → j < ns.length → M1.dahead (M1.up ns j).dr (M1.up ns j).dn (M1.up ns i).dr (M1.up ns i).dn = false) ∧
   ((M1.setOk ns = true ∧ ∃ av cap, e = .returned (.tuple #[.slice av ns.length cap, .bool true]) ∧ MU w' av ns.length cap w.heap.size w'.heap.size (ucell ns)) ∨ (M1.setOk ns = false ∧ e = .returned (.tuple #[.slice none 0 0, .bool false]))) ∧ Below w.heap.size w w' := by
 obtain ⟨ti, hi1, hi2, hi3, hi4⟩ := infoUpd
 have hi4' : Hid (ti.bytes = 112) := hi4
 have hi2' : Hid (ti.zero = some (.agg #[.int .i64 0, .int .i64 0, .int .i64 0, .int .i64 0, .int .i64 0, .int .i64 0, .int .i64 0, .int .i64 0, .int .i64 0, .string ByteArray.empty, .int .i64 0, .int .i64 0, .int .i64 0])) := hi2
 have hi3' : Hid (ti.size = 13) := hi3
 have hi1' : Hid (Tryz.prog.info? 38 = some ti) := hi1
 clear hi1 hi2 hi3 hi4
 have hbl := hM.lt
 go_enter Tryz.func64, Tryz.ntmps64
 go_wp2_with (at_range; refine wpList_rangeN rfl _ rfl b us rfl hM ?_; intro w1 hI1 hb1 hz1)
 go_frame
 have own1 : w1.ownsRow (w.heap.size + 1) 38 13 (.slice none 0 0) ([] : List M1.Upd).length (ucL []) := ownsU_nil _ _ _
 go_loopw [4] (fun v wr => ∃ sn : List Nat, ItN wr w.heap.size b us sn ∧ wr.ownsRow (w.heap.size + 1) 38 13 v sn.length (ucL (sn.map (M1.up us))) ∧ Below w.heap.size w wr) (fun v _ => us.length - lenOf v)
 case atStart => exact ⟨[], hI1, own1, hb1⟩
 case round =>
  clear hI1 own1 hb1
  obtain ⟨sn, hI, own, hB⟩ := hrel
  have hlen := hI.len
  obtain ⟨hlo, va, vc, hve⟩ := owns_len own
  subst hve
  clear hlo
  have hsz := hB.size
  have hrl := hI.rlt
  go_wp2_with (at_next; refine wpList_nextN rfl _ rfl w.heap.size b us sn rfl hI ?_ ?_)
  ·intro hfull
   have hperm : Hid ((sn.map (M1.up us)).Perm us) := (by
    have h1 : sn.Perm (List.range us.length) := M1.nodup_perm hI.nd (fun x hx => by simp; exact hI.lt x hx) (by simp; omega)
    have h2 := h1.map (M1.up us)
    have h3 : (List.range us.length).map (M1.up us) = us := by
     apply List.ext_getElem
     ·simp
     ·intro i h1 h2
      simp [M1.up, List.getD, h2]
    rw [h3] at h2; exact h2 : (sn.map (M1.up us)).Perm us)
   have hl : Hid ((sn.map (M1.up us)).length = sn.length) := List.length_map _
   have hsh' : Hid (∀ i, i < (sn.map (M1.up us)).length → (M1.up (sn.map (M1.up us)) i).s.size ≤ 1000) := fun i hi => by
    have : M1.up (sn.map (M1.up us)) i ∈ us := hperm.out.mem_iff.1 (by
     rw [up_get hi]; exact List.getElem_mem hi)
    obtain ⟨j, hj, e⟩ := List.getElem_of_mem this
    rw [← e, ← up_get hj]; exact hsh j hj
   generalize sn.map (M1.up us) = xs at own hperm hl hsh'
   have hxl : xs.length = us.length := by rw [hl.out]; exact hfull
   rw [← hl.out] at own ⊢
   have hxn : Hid (xs.length ≤ 1000) := (by omega : xs.length ≤ 1000)
   clear hfull hlen hl hI hsz hrl hxl
   rcases own.2 with ⟨hv0, hn0⟩ | ⟨g, cap, cur, hv, hg, _, hcn, hcm, _, _⟩
   ·-- none
    have hxs : xs = [] := List.eq_nil_of_length_eq_zero hn0
    subst hxs
    injection hv0 with e1 e2 e3
    subst e1
    subst e3
    have hpn := hperm.out
    clear own
    go_wp2_with fail
    refine (sortU_none _ _ _ _).mono ?_
    rintro e w2 ⟨rfl, hw2⟩
    subst hw2
    go_wp2_with fail
    refine (setOk_impl none 0 0 [] _ ⟨rfl, Nat.le_refl _, Nat.zero_le _, fun i hi => absurd hi (Nat.not_lt_zero _), Or.inl rfl⟩).mono ?_
    rw [show M1.setOk [] = true from by decide]
    rintro e w3 ⟨rfl, hb3⟩
    go_wp2_with fail
    refine bodyPost_ret (v := .tuple #[.slice none 0 0, .bool true]) (by simp [results, Tryz.results64, go_sem]) rfl ⟨[], hpn, fun i j _ hj => absurd hj (Nat.not_lt_zero _), Or.inl ⟨by decide, none, 0, rfl, ⟨Nat.le_refl _, Nat.zero_le _, Or.inl ⟨rfl, rfl⟩⟩⟩, hB.trans (hb3.mono hB.size)⟩
   ·injection hv with e1 e2 e3
    subst e1
    subst e3
    have row := (RowAt.of_owns own).same fun o ho => ucL_get xs o ho
    have hrl := row.lt
    clear own
    go_wp2_with fail
    refine (sortU_any g _ xs _ row (by have := hxn.out; omega)).mono ?_
    rintro e w2 ⟨rfl, ns, hp, hso, row2, hG2⟩
    have HSO : Hid (∀ i j, i < j → j < ns.length → M1.dahead (M1.up ns j).dr (M1.up ns j).dn (M1.up ns i).dr (M1.up ns i).dn = false) := hso
    clear hso
    have HP : Hid (ns.Perm us) := hp.trans hperm.out
    have hnl : ns.length = xs.length := hp.length_eq
    have hnsh : ∀ i, i < ns.length → (M1.up ns i).s.size ≤ maxLen := fun i hi => by
     have hm : M1.up ns i ∈ us := HP.out.mem_iff.1 (by rw [up_get hi]; exact List.getElem_mem hi)
     obtain ⟨j, hj, e⟩ := List.getElem_of_mem hm
     have := hsh j hj
     rw [up_get hj, e] at this
     unfold maxLen; omega
    rw [← hnl] at row2 hcn ⊢
    have hB2 : Below w.heap.size w w2 := hB.trans (gr_to hG2 hB.size (by omega))
    have u2 := isUpds_of_row rfl hcn hcm hnsh row2
    clear hnsh hp hG2 row hrl hnl
    go_wp2_with fail
    refine (setOk_impl _ _ _ _ _ u2).mono ?_
    obtain ⟨okb, hok⟩ : ∃ q, Hid (M1.setOk ns = q) := ⟨_, rfl⟩
    rw [hok.out]
    rintro e w3 ⟨rfl, hb3⟩
    have hB3 := hB2.trans (hb3.mono hB2.size)
    have row3 := row2.below hb3
    have hl3 := row3.lt
    cases okb with
    | true =>
     go_wp2_with fail
     refine bodyPost_ret (v := .tuple #[.slice (some ⟨g, 0, none⟩) ns.length vc, .bool true]) (by simp [results, Tryz.results64, go_sem]) rfl ⟨ns, HP.out, HSO.out, Or.inl ⟨hok.out, _, _, rfl, ⟨hcn, hcm, Or.inr ⟨g, rfl, by omega, hl3, row3⟩⟩⟩, hB3⟩
    | false =>
     go_wp2_with fail
     refine bodyPost_ret (v := .tuple #[.slice none 0 0, .bool false]) (by simp [results, Tryz.results64, go_sem]) rfl ⟨ns, HP.out, HSO.out, Or.inr ⟨hok.out, rfl⟩, hB3⟩
  ·intro i w2 hi hI2 hg2 hs2 hen
   have hen' : (Instr.entry (.pointer (some ⟨w.heap.size, 0, none⟩))).run Tryz.prog w2 = .ok (.tuple #[.agg #[.int .i64 (M1.up us i).dr, .int .i64 (M1.up us i).dn], .agg #[.int .i64 (M1.up us i).dr, .int .i64 (M1.up us i).dn, .int .i64 (M1.up us i).sw, .int .i64 (M1.up us i).sc, .int .i64 (M1.up us i).sr, .int .i64 (M1.up us i).k, .int .i64 (M1.up us i).tr, .int .i64 (M1.up us i).id, .int .i64 (M1.up us i).pa, .string (M1.up us i).s, .int .i64 (M1.up us i).st, .int .i64 (M1.up us i).en, .int .i64 (M1.up us i).lv]]) w2 := hen
   clear hen
   have own2 : w2.ownsRow (w.heap.size + 1) 38 13 (.slice va sn.length vc) sn.length (ucL (sn.map (M1.up us))) := owns_gr2 own hg2 (by omega)
   have hB2 : Below w.heap.size w w2 := hB.grown hg2 hB.size (fun k e => by injection e with e; omega)
   have hi' := hsh i hi
   clear own hI hg2
   go_wp2_with fail
   refine (copyOf_any (M1.up us i) _ hi').mono ?_
   rintro e w3 ⟨rfl, hb3⟩
   have hb3' : Below w2.heap.size w2 w3 := ((Below.refl _ _).alloc (Nat.le_refl _) _).trans (hb3.mono (by simp))
   have own3 := owns_below own2 hb3'
   have hI3 := hI2.below hb3'
   have hB3 := hB2.trans (hb3'.mono hB2.size)
   have hs3 := hb3'.size
   clear own2 hI2 hb3
   go_wp2_with (at_builtin; refine wpList_append_lies _ rfl _ _ _ rfl (w.heap.size + 1) 38 ti _ 13 112 Tryz.underlying26 hi1'.out hi2'.out hi3'.out hi4'.out rfl (by omega) (.slice va sn.length vc) sn.length (ucL (sn.map (M1.up us))) rfl (owns_below own3 ((Below.refl _ _).alloc (Nat.le_refl _) _)) ⟨w3.heap.size, 0, none⟩ 1 1 [.int .i64 (M1.up us i).dr, .int .i64 (M1.up us i).dn, .int .i64 (M1.up us i).sw, .int .i64 (M1.up us i).sc, .int .i64 (M1.up us i).sr, .int .i64 (M1.up us i).k, .int .i64 (M1.up us i).tr, .int .i64 (M1.up us i).id, .int .i64 (M1.up us i).pa, .string (M1.up us i).s, .int .i64 (M1.up us i).st, .int .i64 (M1.up us i).en, .int .i64 (M1.up us i).lv] rfl rfl (news13 _ _ _ _ _ _ _ _ _ _ _ _ _ _ _) (one13 _) (by omega) (by unfold maxLen; omega) (by omega) (by simp; omega) _ rfl ?_; intro g4 cap4 w4 hown4 hgrow4 hat4 hlt4)
   have hbase := owns_base own3
   have hB4 : Below w.heap.size w w4 := (hB3.alloc hB3.size _).grown hgrow4 (by simp; omega) (fun k e => by have := hbase k e; omega)
   have hI4 := hI3.below ((Below.refl _ _).alloc (Nat.le_refl _) (.cells #[.int .i64 (M1.up us i).dr, .int .i64 (M1.up us i).dn, .int .i64 (M1.up us i).sw, .int .i64 (M1.up us i).sc, .int .i64 (M1.up us i).sr, .int .i64 (M1.up us i).k, .int .i64 (M1.up us i).tr, .int .i64 (M1.up us i).id, .int .i64 (M1.up us i).pa, .string (M1.up us i).s, .int .i64 (M1.up us i).st, .int .i64 (M1.up us i).en, .int .i64 (M1.up us i).lv] 38))
   have hI4' : ItN w4 w.heap.size b us (sn ++ [i]) := hI4.kept (hgrow4.block _ (by have := hI4.rlt; exact this) (fun e => by have := hbase _ e.symm; omega)) (hgrow4.block _ (by have := hI4.map.lt; exact this) (fun e => by have := hbase _ e.symm; omega))
   have el : (sn ++ [i]).length = sn.length + 1 := by simp
   have hl4 := hI4'.len
   rw [el] at hl4
   have em : ucL ((sn ++ [i]).map (M1.up us)) = ucL (sn.map (M1.up us)) ++ ucs (M1.up us i) := by rw [List.map_append]; exact ucL_snoc _ _
   exact ⟨⟨sn ++ [i], hI4', by rw [el, em]; exact hown4, hB4⟩, by simp [lenOf]; omega⟩

end Go.Proofs.YtccendmoeelniaaGreatDoor

namespace Go.Proofs.YtccendmoeelniaaGreatDoor
open Go.ChangeShapes Go.WideShapes Go.ChangeAt Go.RowKit
set_option linter.unusedSimpArgs false
set_option linter.unusedVariables false
def Jd (w w' : World) (e : Ending) (ns : List M1.Upd) (ok : Bool) : Prop := ∃ av cap, e = .returned (.tuple #[.slice av ns.length cap, .bool ok]) ∧ MU w' av ns.length cap w.heap.size w'.heap.size (ucell ns)

theorem jd_nil (w w' : World) : Jd w w' (.returned (.tuple #[.slice none 0 0, .bool false])) [] false := ⟨none, 0, rfl, Nat.le_refl _, Nat.zero_le _, Or.inl ⟨rfl, rfl⟩⟩

end Go.Proofs.YtccendmoeelniaaGreatDoor

namespace Go.Proofs.YtccendmoeelniaaGreatDoor
open Go.ChangeShapes Go.WideShapes Go.ChangeAt Go.RowKit
set_option linter.unusedSimpArgs false
set_option linter.unusedVariables false
theorem row5l (w : World) (a b c d e : Int) (t : TypeId) (f : Nat → Value) (h0 : f 0 = .int .i64 a) (h1 : f 1 = .int .i64 b) (h2 : f 2 = .int .i64 c) (h3 : f 3 = .int .i64 d) (h4 : f 4 = .int .i64 e) : RowAt (w.alloc (.cells #[.int .i64 a, .int .i64 b, .int .i64 c, .int .i64 d, .int .i64 e] t)) w.heap.size 5 f :=
 (RowAt.new w #[.int .i64 a, .int .i64 b, .int .i64 c, .int .i64 d, .int .i64 e] t).same fun o ho => by
  match o, ho with
  | 0, _ => exact h0.symm
  | 1, _ => exact h1.symm
  | 2, _ => exact h2.symm
  | 3, _ => exact h3.symm
  | 4, _ => exact h4.symm

theorem rowg {a b : World} {g m : Nat} {f : Nat → Value} {row : Option Nat} (h : RowAt a g m f) (hg : a.grownBy b row) (hn : ∀ k, row = some k → ¬ k = g) : RowAt b g m f := by
 have e := hg.block g h.lt (fun e => hn g e.symm rfl)
 exact ⟨Nat.lt_of_lt_of_le h.1 hg.size, fun o ho => ⟨(World.cell?_of_block (w := a) (a := ⟨g, o, none⟩) e).trans (h.2 o ho).1, (World.frozen?_of_block (w := a) (a := ⟨g, o, none⟩) e).trans (h.2 o ho).2⟩⟩

set_option maxHeartbeats 8000000 in
set_option maxRecDepth 100000 in
theorem allRight_any (av : Option Addr) (n cn : Nat) (us : List M1.Upd) (w : World) (h1 : IsUpds w av n cn us) :
  Calls Tryz.prog 62 #[.slice av n cn] w fun e w' => e = .returned (.bool (M1.allR us)) ∧ Below w.heap.size w w' := by
 have hl1 : Hid (us.length = n) := h1.hlen
 have hm1 := h1.hcap
 have hm2 := h1.hmost
 unfold maxLen at hm2
 go_enter Tryz.func62, Tryz.ntmps62
 go_wp2_with fail
 go_loopw [7] (fun i wr => ∃ k : Nat, k ≤ n ∧ i = .int .i64 k ∧ Below w.heap.size w wr ∧ Hid (∀ j, j < k → M1.okU (M1.up us j) = true)) (fun i _ => n - (intOf i).toNat)
 case atStart => exact ⟨0, Nat.zero_le _, rfl, Below.refl _ _, fun j hj => absurd hj (Nat.not_lt_zero _)⟩
 case round =>
  obtain ⟨k, hk, rfl, hB, hall⟩ := hrel
  by_cases hlt : k < n
  ·have g1 := h1.below hB
   rcases g1.hlies with h0 | ⟨b, off, rfl, hb, hc⟩
   ·omega
   obtain ⟨c0, c1, c2, c3, c4, c5, c6, c7, c8, c9, c10, c11, c12⟩ := hc k hlt
   have hs := h1.htxt k hlt
   have i0 : (0 : Int) ≤ (k : Int) := by omega
   have i1 : (k : Int) < (n : Int) := by omega
   clear hc g1
   by_cases hu : M1.okU (M1.up us k) = true
   ·have hok : M1.updB (M1.up us k).dr (M1.up us k).dn (M1.up us k).sw (M1.up us k).sc (M1.up us k).sr (M1.up us k).k (M1.up us k).tr (M1.up us k).id (M1.up us k).pa (M1.up us k).s (M1.up us k).st (M1.up us k).en (M1.up us k).lv = true := hu
    have HQ : Hid (∀ j, j < k + 1 → M1.okU (M1.up us j) = true) := fun j hj => by
     by_cases e : j = k
     ·rw [e]; exact hu
     ·exact hall.out j (by omega)
    clear hall hu
    go_wp2_with fail
    refine (updateOk_impl _ _ _ _ _ _ _ _ _ _ _ _ _ _ hs).mono ?_
    rw [hok]
    rintro e w1 ⟨rfl, hb1⟩
    have hB1 : Below w.heap.size w w1 := (hB.alloc hB.size _).trans (hb1.mono (by have := hB.size; simp; omega))
    go_wp2_with fail
    exact ⟨⟨k + 1, by omega, by go_num, hB1, HQ⟩, by simp [intOf]; omega⟩
   ·replace hu : M1.okU (M1.up us k) = false := by simpa using hu
    have hok : M1.updB (M1.up us k).dr (M1.up us k).dn (M1.up us k).sw (M1.up us k).sc (M1.up us k).sr (M1.up us k).k (M1.up us k).tr (M1.up us k).id (M1.up us k).pa (M1.up us k).s (M1.up us k).st (M1.up us k).en (M1.up us k).lv = false := hu
    have HQ : Hid (M1.allR us = false) := M1.allR_no (j := k) (by rw [hl1.out]; exact hlt) hu
    clear hall hu
    go_wp2_with fail
    refine (updateOk_impl _ _ _ _ _ _ _ _ _ _ _ _ _ _ hs).mono ?_
    rw [hok]
    rintro e w1 ⟨rfl, hb1⟩
    have hB1 : Below w.heap.size w w1 := (hB.alloc hB.size _).trans (hb1.mono (by have := hB.size; simp; omega))
    go_wp2_with fail
    go_ret
    exact ⟨by rw [HQ.out]; rfl, hB1⟩
  ·have HQ : Hid (M1.allR us = true) := M1.allR_yes fun j hj => hall.out j (by have := hl1.out; omega)
   clear hall
   go_wp2_with fail
   go_ret
   exact ⟨by rw [HQ.out]; rfl, hB⟩

end Go.Proofs.YtccendmoeelniaaGreatDoor

namespace Go.Proofs.YtccendmoeelniaaGreatDoor
open Go.ChangeShapes Go.WideShapes Go.ChangeAt Go.RowKit
set_option linter.unusedSimpArgs false
set_option linter.unusedVariables false
set_option maxHeartbeats 8000000 in
set_option maxRecDepth 100000 in
theorem taken_no (av bv : Option Addr) (n cn m cm : Nat) (xs ys : List M1.Upd) (w : World) (h1 : IsUpds w av n cn xs) (h2 : IsUpds w bv m cm ys) (hp : M1.tpre xs ys = false) :
  Calls Tryz.prog 22 #[.slice av n cn, .slice bv m cm] w fun e w' => Jd w w' e [] false ∧ Below w.heap.size w w' := by
 have hl2 : Hid (ys.length = m) := h2.hlen
 have hm3 := h2.hcap
 have hm4 := h2.hmost
 unfold maxLen at hm4
 by_cases hs1 : M1.setOk xs = true
 ·by_cases hm60 : m ≤ 60
  ·have hgt : decide ((60 : Int) < (m : Int)) = false := decide_eq_false (by omega)
   have hgt2 : decide (60 < m) = false := decide_eq_false (by omega)
   have hs3 : M1.allR ys = false := by
    have : ys.length ≤ 60 := by have := hl2.out; omega
    simpa [M1.tpre, hs1, this] using hp
   go_enter Tryz.func22, Tryz.ntmps22
   go_wp2_with fail
   refine (setOk_impl _ _ _ _ _ h1).mono ?_
   rw [hs1]
   rintro e w1 ⟨rfl, hb1⟩
   go_wp2_with fail
   refine (allRight_any _ _ _ _ _ (h2.below hb1)).mono ?_
   rw [hs3]
   rintro e w2 ⟨rfl, hb2⟩
   have B2 := hb1.trans (hb2.mono hb1.size)
   go_wp2_with fail
   exact bodyPost_ret (v := .tuple #[.slice none 0 0, .bool false]) (by simp [results, Tryz.results22, go_sem]) rfl ⟨jd_nil _ _, B2⟩
  ·have hgt : decide ((60 : Int) < (m : Int)) = true := decide_eq_true (by omega)
   have hgt2 : decide (60 < m) = true := decide_eq_true (by omega)
   go_enter Tryz.func22, Tryz.ntmps22
   go_wp2_with fail
   refine (setOk_impl _ _ _ _ _ h1).mono ?_
   rw [hs1]
   rintro e w1 ⟨rfl, hb1⟩
   go_wp2_with fail
   exact bodyPost_ret (v := .tuple #[.slice none 0 0, .bool false]) (by simp [results, Tryz.results22, go_sem]) rfl ⟨jd_nil _ _, hb1⟩
 ·replace hs1 : M1.setOk xs = false := by simpa using hs1
  go_enter Tryz.func22, Tryz.ntmps22
  go_wp2_with fail
  refine (setOk_impl _ _ _ _ _ h1).mono ?_
  rw [hs1]
  rintro e w1 ⟨rfl, hb1⟩
  go_wp2_with fail
  exact bodyPost_ret (v := .tuple #[.slice none 0 0, .bool false]) (by simp [results, Tryz.results22, go_sem]) rfl ⟨jd_nil _ _, hb1⟩

end Go.Proofs.YtccendmoeelniaaGreatDoor
