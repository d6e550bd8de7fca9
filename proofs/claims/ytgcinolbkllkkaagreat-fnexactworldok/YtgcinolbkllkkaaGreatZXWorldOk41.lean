/-
  Texts of one proof, joined: JdS.
-/
import Derived.Test.YtgcinolbkllkkaaGreatZXWorldOk33
import Derived.Test.YtgcinolbkllkkaaGreatZXWorldOk40
import Derived.Test.YtgcinolbkllkkaaGreatZXWorldOk23
namespace M1
theorem jl_mem {xs ys : List Upd} (h : agreeB xs ys = true) {k : Nat} (hk : k ≤ ys.length) {x : Upd} (hx : x ∈ jlTo xs ys k) : x.s.size ≤ 12 := by
 obtain ⟨h1, h2, _⟩ := agreeB_true h
 have hp := (jl_all (ys := ys) (ok_sorted (setOk_all h1)) k).2
 rcases puts_mem (hp.mem_iff.2 hx) with hm | ⟨j, hj, e⟩
 ·obtain ⟨q, hq, e⟩ := mem_up hm
  have := ok_txt (okAt_ok (setOk_all h1 q hq))
  rwa [e] at this
 ·have := ok_txt (okAt_ok (setOk_all h2 j (by omega)))
  rw [e]; exact this

theorem jl_len {xs ys : List Upd} (h : agreeB xs ys = true) (k : Nat) : (jlTo xs ys k).length ≤ 60 + k := by
 obtain ⟨h1, h2, _⟩ := agreeB_true h
 have hp := (jl_all (ys := ys) (ok_sorted (setOk_all h1)) k).2.length_eq
 have := puts_len (xs := xs) (ys := ys) k
 have := setOk_len h1
 omega

end M1
namespace Go.Proofs.YtgcinolbkllkkaaGreat
open Go.ChangeShapes Go.WideShapes Go.ChangeAt Go.RowKit
set_option linter.unusedSimpArgs false
set_option linter.unusedVariables false
theorem MU.widen {w : World} {av : Option Addr} {n cap lo hi lo' hi' : Nat} {f : Nat → Value} (h : MU w av n cap lo hi f) (h1 : lo' ≤ lo) (h2 : hi ≤ hi') : MU w av n cap lo' hi' f :=
 ⟨h.1, h.2.1, h.2.2.imp id fun ⟨k, e, h3, h4, r⟩ => ⟨k, e, by omega, by omega, r⟩⟩

theorem jl_txt {xs ys : List M1.Upd} (h : M1.agreeB xs ys = true) {k : Nat} (hk : k ≤ ys.length) : ∀ i, i < (M1.jlTo xs ys k).length → (M1.up (M1.jlTo xs ys k) i).s.size ≤ maxLen := fun i hi => by
 have hm : M1.up (M1.jlTo xs ys k) i ∈ M1.jlTo xs ys k := by rw [up_get hi]; exact List.getElem_mem hi
 have := M1.jl_mem h hk hm
 unfold maxLen; omega

set_option maxHeartbeats 40000000 in
set_option maxRecDepth 100000 in
theorem joined_spec (av bv : Option Addr) (n cn m cm : Nat) (xs ys : List M1.Upd) (w : World) (h1 : IsUpds w av n cn xs) (h2 : IsUpds w bv m cm ys) :
  Calls Tryz.prog 60 #[.slice av n cn, .slice bv m cm] w fun e w' => Jd w w' e (M1.jL xs ys) (M1.jOk xs ys) ∧ Below w.heap.size w w' := by
 have hl2 : Hid (ys.length = m) := h2.hlen
 have hl1 : Hid (xs.length = n) := h1.hlen
 have hm1 := h1.hcap
 have hm2 := h1.hmost
 have hm3 := h2.hcap
 have hm4 := h2.hmost
 unfold maxLen at hm4 hm2
 obtain ⟨ti, hi1, hi2, hi3, hi4⟩ := infoUpd
 have hi4' : Hid (ti.bytes = 112) := hi4
 have hi2' : Hid (ti.zero = some (.agg #[.int .i64 0, .int .i64 0, .int .i64 0, .int .i64 0, .int .i64 0, .int .i64 0, .int .i64 0, .int .i64 0, .int .i64 0, .string ByteArray.empty, .int .i64 0, .int .i64 0, .int .i64 0])) := hi2
 have hi3' : Hid (ti.size = 13) := hi3
 have hi1' : Hid (Tryz.prog.info? 72 = some ti) := hi1
 clear hi1 hi2 hi3 hi4
 by_cases hag : M1.agreeB xs ys = true
 ·have HAG : Hid (M1.agreeB xs ys = true) := hag
  have hn60 : n ≤ 60 := by have := M1.setOk_len (M1.agreeB_true hag).1; have := hl1.out; omega
  have hm60 : m ≤ 60 := by have := M1.setOk_len (M1.agreeB_true hag).2.1; have := hl2.out; omega
  go_enter Tryz.func60, Tryz.ntmps60
  go_wp2_with fail
  refine (agree_spec _ _ _ _ _ _ _ _ _ h1 h2).mono ?_
  rw [hag]
  clear hag
  rintro e w1 ⟨rfl, hb1⟩
  have g1 := h1.below hb1
  have hs1 := hb1.size
  have own0 := ownsU_empty w1 72
  have hA : Below w1.heap.size w1 (w1.alloc (.cells #[] 72)) := (Below.refl _ _).alloc (Nat.le_refl _) _
  rcases g1.hlies with h0 | ⟨b, off, rfl, hb, hc⟩
  ·have hx : xs = [] := List.eq_nil_of_length_eq_zero (by have := hl1.out; omega)
   subst hx
   subst h0
   obtain ⟨a, c, he, mu0⟩ := MU.of_owns own0
   injection he with e1 e2 e3; (try clear e2)
   subst e1
   subst e3
   have mu := mu0.widen (lo' := w.heap.size) (by omega) (Nat.le_refl _)
   clear mu0
   go_wp2_with (at_builtin; (refine wpList_append_zero rfl _ _ _ rfl w1.heap.size 72 ti 13 Tryz.underlying32 hi1'.out _ 0 (ucL []) rfl own0 _ _ rfl ?_))
   obtain ⟨W, hWm, hWb⟩ : ∃ W, W = (w1.alloc (.cells #[] 72)) ∧ Below w.heap.size w W := ⟨_, rfl, hb1.trans (hA.mono hs1)⟩
   rw [← hWm] at mu ⊢
   clear hWm
   go_wp2_with fail
   go_loopw [6, 7] (fun v i wr => ∃ (k : Nat) (a : Option Addr) (c : Nat), k ≤ m ∧ i = .int .i64 k ∧ v = .slice a (M1.jlTo ([] : List M1.Upd) ys k).length c ∧ MU wr a (M1.jlTo ([] : List M1.Upd) ys k).length c w.heap.size wr.heap.size (ucell (M1.jlTo ([] : List M1.Upd) ys k)) ∧ Below w.heap.size w wr) (fun _ i _ => m - (intOf i).toNat)
   case atStart => exact ⟨0, _, _, Nat.zero_le _, rfl, rfl, mu, hWb⟩
   case round =>
    clear mu hWb
    obtain ⟨k, a, c, hk, rfl, rfl, mu, hB⟩ := hrel
    have hsz := hB.size
    have hjn := M1.jl_len HAG.out k
    by_cases hlt : k < m
    ·have g2 := h2.below hB
     rcases g2.hlies with h0 | ⟨b2, off2, rfl, hb2, hc2⟩
     ·omega
     obtain ⟨c0, c1, c2, c3, c4, c5, c6, c7, c8, c9, c10, c11, c12⟩ := hc2 k hlt
     have i0 : (0 : Int) ≤ (k : Int) := by omega
     have i1 : (k : Int) < (m : Int) := by omega
     clear hc2 g2
     have uq := mu.upds rfl (jl_txt HAG.out (by rw [hl2.out]; exact hk))
     have HK : Hid (M1.jlTo ([] : List M1.Upd) ys (k + 1) = M1.insD (M1.jlTo ([] : List M1.Upd) ys k) (M1.up ys k)) := (rfl : M1.jlTo ([] : List M1.Upd) ys (k + 1) = M1.insD (M1.jlTo ([] : List M1.Upd) ys k) (M1.up ys k))
     go_wp2_with fail
     refine (l3Put_any _ _ _ _ (M1.up ys k) _ uq (by omega)).mono ?_
     rintro e w4 ⟨⟨v4, ns, rfl, hput, own4⟩, hb4⟩
     have hns : ns = M1.jlTo ([] : List M1.Upd) ys (k + 1) := (M1.putR_ins hput).trans HK.out.symm
     subst hns
     obtain ⟨a4, c4', rfl, mu4⟩ := MU.of_owns own4
     have hB4 := hB.trans (hb4.mono hB.size)
     clear hput own4 uq
     go_wp2_with fail
     exact ⟨⟨k + 1, a4, c4', by omega, by go_num, rfl, mu4.widen (by omega) (Nat.le_refl _), hB4⟩, by simp [intOf]; omega⟩
    ·have hkm : Hid (M1.jlTo ([] : List M1.Upd) ys k = M1.jl ([] : List M1.Upd) ys) := (by unfold M1.jl; rw [show k = ys.length from by have := hl2.out; omega] : M1.jlTo ([] : List M1.Upd) ys k = M1.jl ([] : List M1.Upd) ys)
     have uq := mu.upds rfl (jl_txt HAG.out (by rw [hl2.out]; exact hk))
     rw [hkm.out] at mu uq ⊢
     go_wp2_with fail
     refine (setOk_spec _ _ _ _ _ uq).mono ?_
     obtain ⟨okb, hok⟩ : ∃ q, Hid (M1.setOk (M1.jl ([] : List M1.Upd) ys) = q) := ⟨_, rfl⟩
     rw [hok.out]
     rintro e w4 ⟨rfl, hb4⟩
     have hB4 := hB.trans (hb4.mono hB.size)
     have mu4 := mu.below hb4
     have hs4 := hb4.size
     cases okb with
     | true =>
      have q := M1.j_yes HAG.out hok.out
      have Q1 : Hid (M1.jOk ([] : List M1.Upd) ys = true) := q.1
      have Q2 : Hid (M1.jL ([] : List M1.Upd) ys = M1.jl ([] : List M1.Upd) ys) := q.2
      clear q
      go_wp2_with fail
      refine bodyPost_ret (v := .tuple #[.slice a (M1.jl ([] : List M1.Upd) ys).length c, .bool true]) (by simp [results, Tryz.results60, go_sem]) rfl ⟨?_, hB4⟩
      rw [Q1.out, Q2.out]
      exact ⟨a, c, rfl, mu4.widen (Nat.le_refl _) hs4⟩
     | false =>
      have q := M1.j_not hok.out
      have Q1 : Hid (M1.jOk ([] : List M1.Upd) ys = false) := q.1
      have Q2 : Hid (M1.jL ([] : List M1.Upd) ys = []) := q.2
      clear q
      go_wp2_with fail
      refine bodyPost_ret (v := .tuple #[.slice none 0 0, .bool false]) (by simp [results, Tryz.results60, go_sem]) rfl ⟨?_, hB4⟩
      rw [Q1.out, Q2.out]
      exact jd_nil _ _
  ·have hnews : ∀ j u, (ucL xs)[j]? = some u → (w1.alloc (.cells #[] 72)).cell? ((⟨b, off, none⟩ : Addr).add j) = some u := by
    have := ucL_take_cells (w := w1.alloc (.cells #[] 72)) (b := b) (off := off) (n := n) (us := xs) (fun i hi => (hc i hi).below hA hb) hl1.out 0 n (by omega)
    have e : (xs.drop 0).take n = xs := by rw [List.drop_zero, ← hl1.out, List.take_length]
    rw [e] at this
    simpa using this
   by_cases hn0 : n = 0
   ·have hx : xs = [] := List.eq_nil_of_length_eq_zero (by have := hl1.out; omega)
    subst hx
    subst hn0
    clear hnews
    obtain ⟨a, c, he, mu0⟩ := MU.of_owns own0
    injection he with e1 e2 e3; (try clear e2)
    subst e1
    subst e3
    have mu := mu0.widen (lo' := w.heap.size) (by omega) (Nat.le_refl _)
    clear mu0
    go_wp2_with (at_builtin; (refine wpList_append_zero rfl _ _ _ rfl w1.heap.size 72 ti 13 Tryz.underlying32 hi1'.out _ 0 (ucL []) rfl own0 _ _ rfl ?_))
    obtain ⟨W, hWm, hWb⟩ : ∃ W, W = (w1.alloc (.cells #[] 72)) ∧ Below w.heap.size w W := ⟨_, rfl, hb1.trans (hA.mono hs1)⟩
    rw [← hWm] at mu ⊢
    clear hWm
    go_wp2_with fail
    go_loopw [6, 7] (fun v i wr => ∃ (k : Nat) (a : Option Addr) (c : Nat), k ≤ m ∧ i = .int .i64 k ∧ v = .slice a (M1.jlTo ([] : List M1.Upd) ys k).length c ∧ MU wr a (M1.jlTo ([] : List M1.Upd) ys k).length c w.heap.size wr.heap.size (ucell (M1.jlTo ([] : List M1.Upd) ys k)) ∧ Below w.heap.size w wr) (fun _ i _ => m - (intOf i).toNat)
    case atStart => exact ⟨0, _, _, Nat.zero_le _, rfl, rfl, mu, hWb⟩
    case round =>
     clear mu hWb
     obtain ⟨k, a, c, hk, rfl, rfl, mu, hB⟩ := hrel
     have hsz := hB.size
     have hjn := M1.jl_len HAG.out k
     by_cases hlt : k < m
     ·have g2 := h2.below hB
      rcases g2.hlies with h0 | ⟨b2, off2, rfl, hb2, hc2⟩
      ·omega
      obtain ⟨c0, c1, c2, c3, c4, c5, c6, c7, c8, c9, c10, c11, c12⟩ := hc2 k hlt
      have i0 : (0 : Int) ≤ (k : Int) := by omega
      have i1 : (k : Int) < (m : Int) := by omega
      clear hc2 g2
      have uq := mu.upds rfl (jl_txt HAG.out (by rw [hl2.out]; exact hk))
      have HK : Hid (M1.jlTo ([] : List M1.Upd) ys (k + 1) = M1.insD (M1.jlTo ([] : List M1.Upd) ys k) (M1.up ys k)) := (rfl : M1.jlTo ([] : List M1.Upd) ys (k + 1) = M1.insD (M1.jlTo ([] : List M1.Upd) ys k) (M1.up ys k))
      go_wp2_with fail
      refine (l3Put_any _ _ _ _ (M1.up ys k) _ uq (by omega)).mono ?_
      rintro e w4 ⟨⟨v4, ns, rfl, hput, own4⟩, hb4⟩
      have hns : ns = M1.jlTo ([] : List M1.Upd) ys (k + 1) := (M1.putR_ins hput).trans HK.out.symm
      subst hns
      obtain ⟨a4, c4', rfl, mu4⟩ := MU.of_owns own4
      have hB4 := hB.trans (hb4.mono hB.size)
      clear hput own4 uq
      go_wp2_with fail
      exact ⟨⟨k + 1, a4, c4', by omega, by go_num, rfl, mu4.widen (by omega) (Nat.le_refl _), hB4⟩, by simp [intOf]; omega⟩
     ·have hkm : Hid (M1.jlTo ([] : List M1.Upd) ys k = M1.jl ([] : List M1.Upd) ys) := (by unfold M1.jl; rw [show k = ys.length from by have := hl2.out; omega] : M1.jlTo ([] : List M1.Upd) ys k = M1.jl ([] : List M1.Upd) ys)
      have uq := mu.upds rfl (jl_txt HAG.out (by rw [hl2.out]; exact hk))
      rw [hkm.out] at mu uq ⊢
      go_wp2_with fail
      refine (setOk_spec _ _ _ _ _ uq).mono ?_
      obtain ⟨okb, hok⟩ : ∃ q, Hid (M1.setOk (M1.jl ([] : List M1.Upd) ys) = q) := ⟨_, rfl⟩
      rw [hok.out]
      rintro e w4 ⟨rfl, hb4⟩
      have hB4 := hB.trans (hb4.mono hB.size)
      have mu4 := mu.below hb4
      have hs4 := hb4.size
      cases okb with
      | true =>
       have q := M1.j_yes HAG.out hok.out
       have Q1 : Hid (M1.jOk ([] : List M1.Upd) ys = true) := q.1
       have Q2 : Hid (M1.jL ([] : List M1.Upd) ys = M1.jl ([] : List M1.Upd) ys) := q.2
       clear q
       go_wp2_with fail
       refine bodyPost_ret (v := .tuple #[.slice a (M1.jl ([] : List M1.Upd) ys).length c, .bool true]) (by simp [results, Tryz.results60, go_sem]) rfl ⟨?_, hB4⟩
       rw [Q1.out, Q2.out]
       exact ⟨a, c, rfl, mu4.widen (Nat.le_refl _) hs4⟩
      | false =>
       have q := M1.j_not hok.out
       have Q1 : Hid (M1.jOk ([] : List M1.Upd) ys = false) := q.1
       have Q2 : Hid (M1.jL ([] : List M1.Upd) ys = []) := q.2
       clear q
       go_wp2_with fail
       refine bodyPost_ret (v := .tuple #[.slice none 0 0, .bool false]) (by simp [results, Tryz.results60, go_sem]) rfl ⟨?_, hB4⟩
       rw [Q1.out, Q2.out]
       exact jd_nil _ _
   ·go_wp2_with (at_builtin; refine wpList_append_lies _ rfl _ _ _ rfl w1.heap.size 72 ti _ 13 112 Tryz.underlying32 hi1'.out hi2'.out hi3'.out hi4'.out rfl (by omega) _ 0 (ucL []) rfl own0 ⟨b, off, none⟩ n cn (ucL xs) rfl (by rw [ucL_len, hl1.out]) hnews (ucL_one xs) (by omega) (by unfold maxLen; omega) (by omega) (by simp) _ rfl ?_; intro g4 cap4 w4 hown4 hgrow4 hat4 hlt4)
    have own4 : w4.ownsRow w1.heap.size 72 13 (.slice (some ⟨g4, 0, none⟩) xs.length cap4) xs.length (ucL xs) := by
     have q := hown4
     rw [Nat.zero_add, ← hl1.out] at q
     exact q
    obtain ⟨a, c, he, mu0⟩ := MU.of_owns own4
    injection he with e1 e2 e3; (try clear e2)
    subst e1
    subst e3
    have mu := mu0.widen (lo' := w.heap.size) (by omega) (Nat.le_refl _)
    have hB4 : Below w.heap.size w w4 := (hb1.trans (hA.mono hs1)).grown hgrow4 (by simp; omega) (fun k e => by have := owns_base own0 k e; omega)
    rw [← hl1.out]
    clear mu0 hown4 own4 hnews
    obtain ⟨W, hWm, hWb⟩ : ∃ W, W = w4 ∧ Below w.heap.size w W := ⟨_, rfl, hB4⟩
    rw [← hWm] at mu ⊢
    clear hWm
    go_wp2_with fail
    go_loopw [6, 7] (fun v i wr => ∃ (k : Nat) (a : Option Addr) (c : Nat), k ≤ m ∧ i = .int .i64 k ∧ v = .slice a (M1.jlTo xs ys k).length c ∧ MU wr a (M1.jlTo xs ys k).length c w.heap.size wr.heap.size (ucell (M1.jlTo xs ys k)) ∧ Below w.heap.size w wr) (fun _ i _ => m - (intOf i).toNat)
    case atStart => exact ⟨0, _, _, Nat.zero_le _, rfl, rfl, mu, hWb⟩
    case round =>
     clear mu hWb
     obtain ⟨k, a, c, hk, rfl, rfl, mu, hB⟩ := hrel
     have hsz := hB.size
     have hjn := M1.jl_len HAG.out k
     by_cases hlt : k < m
     ·have g2 := h2.below hB
      rcases g2.hlies with h0 | ⟨b2, off2, rfl, hb2, hc2⟩
      ·omega
      obtain ⟨c0, c1, c2, c3, c4, c5, c6, c7, c8, c9, c10, c11, c12⟩ := hc2 k hlt
      have i0 : (0 : Int) ≤ (k : Int) := by omega
      have i1 : (k : Int) < (m : Int) := by omega
      clear hc2 g2
      have uq := mu.upds rfl (jl_txt HAG.out (by rw [hl2.out]; exact hk))
      have HK : Hid (M1.jlTo xs ys (k + 1) = M1.insD (M1.jlTo xs ys k) (M1.up ys k)) := (rfl : M1.jlTo xs ys (k + 1) = M1.insD (M1.jlTo xs ys k) (M1.up ys k))
      go_wp2_with fail
      refine (l3Put_any _ _ _ _ (M1.up ys k) _ uq (by omega)).mono ?_
      rintro e w4 ⟨⟨v4, ns, rfl, hput, own4⟩, hb4⟩
      have hns : ns = M1.jlTo xs ys (k + 1) := (M1.putR_ins hput).trans HK.out.symm
      subst hns
      obtain ⟨a4, c4', rfl, mu4⟩ := MU.of_owns own4
      have hB4 := hB.trans (hb4.mono hB.size)
      clear hput own4 uq
      go_wp2_with fail
      exact ⟨⟨k + 1, a4, c4', by omega, by go_num, rfl, mu4.widen (by omega) (Nat.le_refl _), hB4⟩, by simp [intOf]; omega⟩
     ·have hkm : Hid (M1.jlTo xs ys k = M1.jl xs ys) := (by unfold M1.jl; rw [show k = ys.length from by have := hl2.out; omega] : M1.jlTo xs ys k = M1.jl xs ys)
      have uq := mu.upds rfl (jl_txt HAG.out (by rw [hl2.out]; exact hk))
      rw [hkm.out] at mu uq ⊢
      go_wp2_with fail
      refine (setOk_spec _ _ _ _ _ uq).mono ?_
      obtain ⟨okb, hok⟩ : ∃ q, Hid (M1.setOk (M1.jl xs ys) = q) := ⟨_, rfl⟩
      rw [hok.out]
      rintro e w4 ⟨rfl, hb4⟩
      have hB4 := hB.trans (hb4.mono hB.size)
      have mu4 := mu.below hb4
      have hs4 := hb4.size
      cases okb with
      | true =>
       have q := M1.j_yes HAG.out hok.out
       have Q1 : Hid (M1.jOk xs ys = true) := q.1
       have Q2 : Hid (M1.jL xs ys = M1.jl xs ys) := q.2
       clear q
       go_wp2_with fail
       refine bodyPost_ret (v := .tuple #[.slice a (M1.jl xs ys).length c, .bool true]) (by simp [results, Tryz.results60, go_sem]) rfl ⟨?_, hB4⟩
       rw [Q1.out, Q2.out]
       exact ⟨a, c, rfl, mu4.widen (Nat.le_refl _) hs4⟩
      | false =>
       have q := M1.j_not hok.out
       have Q1 : Hid (M1.jOk xs ys = false) := q.1
       have Q2 : Hid (M1.jL xs ys = []) := q.2
       clear q
       go_wp2_with fail
       refine bodyPost_ret (v := .tuple #[.slice none 0 0, .bool false]) (by simp [results, Tryz.results60, go_sem]) rfl ⟨?_, hB4⟩
       rw [Q1.out, Q2.out]
       exact jd_nil _ _
 ·replace hag : M1.agreeB xs ys = false := by simpa using hag
  have q := M1.j_no hag
  rw [q.1, q.2]
  clear q
  go_enter Tryz.func60, Tryz.ntmps60
  go_wp2_with fail
  refine (agree_spec _ _ _ _ _ _ _ _ _ h1 h2).mono ?_
  rw [hag]
  rintro e w1 ⟨rfl, hb1⟩
  go_wp2_with fail
  refine bodyPost_ret (v := .tuple #[.slice none 0 0, .bool false]) (by simp [results, Tryz.results60, go_sem]) rfl ⟨jd_nil _ _, hb1⟩

end Go.Proofs.YtgcinolbkllkkaaGreat
