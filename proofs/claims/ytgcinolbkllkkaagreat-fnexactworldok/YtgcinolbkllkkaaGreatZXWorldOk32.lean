/-
  Texts of one proof, joined: Told3.
-/
import Derived.Test.YtgcinolbkllkkaaGreatZXWorldOk30
import Derived.Test.YtgcinolbkllkkaaGreatZXWorldOk11
import Derived.Test.YtgcinolbkllkkaaGreatZXWorldOk31
import Derived.Test.YtgcinolbkllkkaaGreatZXWorldOk14
namespace Go.Proofs.YtgcinolbkllkkaaGreat
open Go.ChangeShapes Go.WideShapes Go.ChangeAt Go.RowKit
set_option linter.unusedSimpArgs false
set_option linter.unusedVariables false
def lenOf : Value → Nat
 | .slice _ n _ => n
 | _ => 0

theorem owns_len {w : World} {base : Nat} {e : TypeId} {size n : Nat} {v : Value} {xs : List Value} (h : w.ownsRow base e size v n xs) : lenOf v = n ∧ ∃ a c, v = .slice a n c := by
 rcases h.2 with ⟨rfl, rfl⟩ | ⟨g, cap, cur, rfl, _⟩
 ·exact ⟨rfl, _, _, rfl⟩
 ·exact ⟨rfl, _, _, rfl⟩

theorem up_get {l : List M1.Upd} {i : Nat} (h : i < l.length) : M1.up l i = l[i] := by simp [M1.up, List.getD, h]

theorem owns_gr2 {w w' : World} {base g : Nat} {e : TypeId} {size n : Nat} {v : Value} {xs : List Value} (h : w.ownsRow base e size v n xs) (hg : Gr g w w') (hb : g < base) : w'.ownsRow base e size v n xs := by
 obtain ⟨h1, h2⟩ := h
 refine ⟨h1, h2.imp id fun ⟨k, cap, cur, hv, hk, hh, r⟩ => ⟨k, cap, cur, hv, hk, ?_, r⟩⟩
 have hlt : k < w.heap.size := by
  rcases Nat.lt_or_ge k w.heap.size with h | h
  ·exact h
  ·rw [Array.getElem?_eq_none h] at hh; cases hh
 rw [hg.block k hlt (fun e => by injection e with e; omega)]; exact hh

set_option maxHeartbeats 40000000 in
set_option maxRecDepth 100000 in
theorem told_any (b : Nat) (us : List M1.Upd) (w : World) (hM : MapN w b us) (hsh : ∀ i, i < us.length → (M1.up us i).s.size ≤ 1000) (hn : us.length ≤ 1000) :
  Calls Tryz.prog 88 #[.map (some b)] w fun e w' => ∃ (ns : List M1.Upd), ns.Perm us ∧ (∀ i j, i < j → j < ns.length → M1.dahead (M1.up ns j).dr (M1.up ns j).dn (M1.up ns i).dr (M1.up ns i).dn = false) ∧
   ((M1.setOk ns = true ∧ ∃ av cap, e = .returned (.tuple #[.slice av ns.length cap, .bool true]) ∧ MU w' av ns.length cap w.heap.size w'.heap.size (ucell ns)) ∨ (M1.setOk ns = false ∧ e = .returned (.tuple #[.slice none 0 0, .bool false]))) ∧ Below w.heap.size w w' := by
 obtain ⟨ti, hi1, hi2, hi3, hi4⟩ := infoUpd
 have hi4' : Hid (ti.bytes = 112) := hi4
 have hi2' : Hid (ti.zero = some (.agg #[.int .i64 0, .int .i64 0, .int .i64 0, .int .i64 0, .int .i64 0, .int .i64 0, .int .i64 0, .int .i64 0, .int .i64 0, .string ByteArray.empty, .int .i64 0, .int .i64 0, .int .i64 0])) := hi2
 have hi3' : Hid (ti.size = 13) := hi3
 have hi1' : Hid (Tryz.prog.info? 72 = some ti) := hi1
 clear hi1 hi2 hi3 hi4
 have hbl := hM.lt
 go_enter Tryz.func88, Tryz.ntmps88
 go_wp2_with (at_range; refine wpList_rangeN rfl _ rfl b us rfl hM ?_; intro w1 hI1 hb1 hz1)
 go_frame
 have own1 : w1.ownsRow (w.heap.size + 1) 72 13 (.slice none 0 0) ([] : List M1.Upd).length (ucL []) := ownsU_nil _ _ _
 go_loopw [4] (fun v wr => ∃ sn : List Nat, ItN wr w.heap.size b us sn ∧ wr.ownsRow (w.heap.size + 1) 72 13 v sn.length (ucL (sn.map (M1.up us))) ∧ Below w.heap.size w wr) (fun v _ => us.length - lenOf v)
 case atStart => exact ⟨[], hI1, own1, hb1⟩
 case round =>
  clear hI1 own1 hb1
  obtain ⟨sn, hI, own, hB⟩ := hrel
  have hlen := hI.len
  obtain ⟨hlo, va, vc, hve⟩ := owns_len own
  subst hve
  clear hlo
  have hsz := hB.size
  have hrl := hI.rlt
  go_wp2_with (at_next; refine wpList_nextN rfl _ rfl w.heap.size b us sn rfl hI ?_ ?_)
  ·intro hfull
   have hperm : Hid ((sn.map (M1.up us)).Perm us) := (by
    have h1 : sn.Perm (List.range us.length) := M1.nodup_perm hI.nd (fun x hx => by simp; exact hI.lt x hx) (by simp; omega)
    have h2 := h1.map (M1.up us)
    have h3 : (List.range us.length).map (M1.up us) = us := by
     apply List.ext_getElem
     ·simp
     ·intro i h1 h2
      simp [M1.up, List.getD, h2]
    rw [h3] at h2; exact h2 : (sn.map (M1.up us)).Perm us)
   have hl : Hid ((sn.map (M1.up us)).length = sn.length) := List.length_map _
   have hsh' : Hid (∀ i, i < (sn.map (M1.up us)).length → (M1.up (sn.map (M1.up us)) i).s.size ≤ 1000) := fun i hi => by
    have : M1.up (sn.map (M1.up us)) i ∈ us := hperm.out.mem_iff.1 (by
     rw [up_get hi]; exact List.getElem_mem hi)
    obtain ⟨j, hj, e⟩ := List.getElem_of_mem this
    rw [← e, ← up_get hj]; exact hsh j hj
   generalize sn.map (M1.up us) = xs at own hperm hl hsh'
   have hxl : xs.length = us.length := by rw [hl.out]; exact hfull
   rw [← hl.out] at own ⊢
   have hxn : Hid (xs.length ≤ 1000) := (by omega : xs.length ≤ 1000)
   clear hfull hlen hl hI hsz hrl hxl
   rcases own.2 with ⟨hv0, hn0⟩ | ⟨g, cap, cur, hv, hg, _, hcn, hcm, _, _⟩
   ·-- none
    have hxs : xs = [] := List.eq_nil_of_length_eq_zero hn0
    subst hxs
    injection hv0 with e1 e2 e3
    subst e1
    subst e3
    have hpn := hperm.out
    clear own
    go_wp2_with fail
    refine (sortU_none _ _ _ _).mono ?_
    rintro e w2 ⟨rfl, hw2⟩
    subst hw2
    go_wp2_with fail
    refine (setOk_impl none 0 0 [] _ ⟨rfl, Nat.le_refl _, Nat.zero_le _, fun i hi => absurd hi (Nat.not_lt_zero _), Or.inl rfl⟩).mono ?_
    rw [show M1.setOk [] = true from by decide]
    rintro e w3 ⟨rfl, hb3⟩
    go_wp2_with fail
    refine bodyPost_ret (v := .tuple #[.slice none 0 0, .bool true]) (by simp [results, Tryz.results88, go_sem]) rfl ⟨[], hpn, fun i j _ hj => absurd hj (Nat.not_lt_zero _), Or.inl ⟨by decide, none, 0, rfl, ⟨Nat.le_refl _, Nat.zero_le _, Or.inl ⟨rfl, rfl⟩⟩⟩, hB.trans (hb3.mono hB.size)⟩
   ·injection hv with e1 e2 e3
    subst e1
    subst e3
    have row := (RowAt.of_owns own).same fun o ho => ucL_get xs o ho
    have hrl := row.lt
    clear own
    go_wp2_with fail
    refine (sortU_any g _ xs _ row (by have := hxn.out; omega)).mono ?_
    rintro e w2 ⟨rfl, ns, hp, hso, row2, hG2⟩
    have HSO : Hid (∀ i j, i < j → j < ns.length → M1.dahead (M1.up ns j).dr (M1.up ns j).dn (M1.up ns i).dr (M1.up ns i).dn = false) := hso
    clear hso
    have HP : Hid (ns.Perm us) := hp.trans hperm.out
    have hnl : ns.length = xs.length := hp.length_eq
    have hnsh : ∀ i, i < ns.length → (M1.up ns i).s.size ≤ maxLen := fun i hi => by
     have hm : M1.up ns i ∈ us := HP.out.mem_iff.1 (by rw [up_get hi]; exact List.getElem_mem hi)
     obtain ⟨j, hj, e⟩ := List.getElem_of_mem hm
     have := hsh j hj
     rw [up_get hj, e] at this
     unfold maxLen; omega
    rw [← hnl] at row2 hcn ⊢
    have hB2 : Below w.heap.size w w2 := hB.trans (gr_to hG2 hB.size (by omega))
    have u2 := isUpds_of_row rfl hcn hcm hnsh row2
    clear hnsh hp hG2 row hrl hnl
    go_wp2_with fail
    refine (setOk_impl _ _ _ _ _ u2).mono ?_
    obtain ⟨okb, hok⟩ : ∃ q, Hid (M1.setOk ns = q) := ⟨_, rfl⟩
    rw [hok.out]
    rintro e w3 ⟨rfl, hb3⟩
    have hB3 := hB2.trans (hb3.mono hB2.size)
    have row3 := row2.below hb3
    have hl3 := row3.lt
    cases okb with
    | true =>
     go_wp2_with fail
     refine bodyPost_ret (v := .tuple #[.slice (some ⟨g, 0, none⟩) ns.length vc, .bool true]) (by simp [results, Tryz.results88, go_sem]) rfl ⟨ns, HP.out, HSO.out, Or.inl ⟨hok.out, _, _, rfl, ⟨hcn, hcm, Or.inr ⟨g, rfl, by omega, hl3, row3⟩⟩⟩, hB3⟩
    | false =>
     go_wp2_with fail
     refine bodyPost_ret (v := .tuple #[.slice none 0 0, .bool false]) (by simp [results, Tryz.results88, go_sem]) rfl ⟨ns, HP.out, HSO.out, Or.inr ⟨hok.out, rfl⟩, hB3⟩
  ·intro i w2 hi hI2 hg2 hs2 hen
   have hen' : (Instr.entry (.pointer (some ⟨w.heap.size, 0, none⟩))).run Tryz.prog w2 = .ok (.tuple #[.agg #[.int .i64 (M1.up us i).dr, .int .i64 (M1.up us i).dn], .agg #[.int .i64 (M1.up us i).dr, .int .i64 (M1.up us i).dn, .int .i64 (M1.up us i).sw, .int .i64 (M1.up us i).sc, .int .i64 (M1.up us i).sr, .int .i64 (M1.up us i).k, .int .i64 (M1.up us i).tr, .int .i64 (M1.up us i).id, .int .i64 (M1.up us i).pa, .string (M1.up us i).s, .int .i64 (M1.up us i).st, .int .i64 (M1.up us i).en, .int .i64 (M1.up us i).lv]]) w2 := hen
   clear hen
   have own2 : w2.ownsRow (w.heap.size + 1) 72 13 (.slice va sn.length vc) sn.length (ucL (sn.map (M1.up us))) := owns_gr2 own hg2 (by omega)
   have hB2 : Below w.heap.size w w2 := hB.grown hg2 hB.size (fun k e => by injection e with e; omega)
   have hi' := hsh i hi
   clear own hI hg2
   go_wp2_with fail
   refine (copyOf_any (M1.up us i) _ hi').mono ?_
   rintro e w3 ⟨rfl, hb3⟩
   have hb3' : Below w2.heap.size w2 w3 := ((Below.refl _ _).alloc (Nat.le_refl _) _).trans (hb3.mono (by simp))
   have own3 := owns_below own2 hb3'
   have hI3 := hI2.below hb3'
   have hB3 := hB2.trans (hb3'.mono hB2.size)
   have hs3 := hb3'.size
   clear own2 hI2 hb3
   go_wp2_with (at_builtin; refine wpList_append_lies _ rfl _ _ _ rfl (w.heap.size + 1) 72 ti _ 13 112 Tryz.underlying32 hi1'.out hi2'.out hi3'.out hi4'.out rfl (by omega) (.slice va sn.length vc) sn.length (ucL (sn.map (M1.up us))) rfl (owns_below own3 ((Below.refl _ _).alloc (Nat.le_refl _) _)) ⟨w3.heap.size, 0, none⟩ 1 1 [.int .i64 (M1.up us i).dr, .int .i64 (M1.up us i).dn, .int .i64 (M1.up us i).sw, .int .i64 (M1.up us i).sc, .int .i64 (M1.up us i).sr, .int .i64 (M1.up us i).k, .int .i64 (M1.up us i).tr, .int .i64 (M1.up us i).id, .int .i64 (M1.up us i).pa, .string (M1.up us i).s, .int .i64 (M1.up us i).st, .int .i64 (M1.up us i).en, .int .i64 (M1.up us i).lv] rfl rfl (news13 _ _ _ _ _ _ _ _ _ _ _ _ _ _ _) (one13 _) (by omega) (by unfold maxLen; omega) (by omega) (by simp; omega) _ rfl ?_; intro g4 cap4 w4 hown4 hgrow4 hat4 hlt4)
   have hbase := owns_base own3
   have hB4 : Below w.heap.size w w4 := (hB3.alloc hB3.size _).grown hgrow4 (by simp; omega) (fun k e => by have := hbase k e; omega)
   have hI4 := hI3.below ((Below.refl _ _).alloc (Nat.le_refl _) (.cells #[.int .i64 (M1.up us i).dr, .int .i64 (M1.up us i).dn, .int .i64 (M1.up us i).sw, .int .i64 (M1.up us i).sc, .int .i64 (M1.up us i).sr, .int .i64 (M1.up us i).k, .int .i64 (M1.up us i).tr, .int .i64 (M1.up us i).id, .int .i64 (M1.up us i).pa, .string (M1.up us i).s, .int .i64 (M1.up us i).st, .int .i64 (M1.up us i).en, .int .i64 (M1.up us i).lv] 72))
   have hI4' : ItN w4 w.heap.size b us (sn ++ [i]) := hI4.kept (hgrow4.block _ (by have := hI4.rlt; exact this) (fun e => by have := hbase _ e.symm; omega)) (hgrow4.block _ (by have := hI4.map.lt; exact this) (fun e => by have := hbase _ e.symm; omega))
   have el : (sn ++ [i]).length = sn.length + 1 := by simp
   have hl4 := hI4'.len
   rw [el] at hl4
   have em : ucL ((sn ++ [i]).map (M1.up us)) = ucL (sn.map (M1.up us)) ++ ucs (M1.up us i) := by rw [List.map_append]; exact ucL_snoc _ _
   exact ⟨⟨sn ++ [i], hI4', by rw [el, em]; exact hown4, hB4⟩, by simp [lenOf]; omega⟩

end Go.Proofs.YtgcinolbkllkkaaGreat
