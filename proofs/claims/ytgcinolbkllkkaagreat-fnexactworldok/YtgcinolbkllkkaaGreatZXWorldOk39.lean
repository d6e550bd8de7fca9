/-
  Texts of one proof, joined: Wk3.
-/
import Derived.Test.YtgcinolbkllkkaaGreatZXWorldOk37
import Derived.Test.YtgcinolbkllkkaaGreatZXWorldOk38
namespace Go.Proofs.YtgcinolbkllkkaaGreat
open Go.ChangeShapes Go.WideShapes Go.ChangeAt Go.RowKit
set_option linter.unusedSimpArgs false
set_option linter.unusedVariables false
def twoB (a b : Int) (n : Int) : Bool := M1.inB a 1 n && (M1.inB b 1 n && !(a == b))

set_option maxHeartbeats 2000000 in
theorem twoOf_any (a b n : Int) (w : World) :
  Calls Tryz.prog 25 #[.int .i64 a, .int .i64 b, .int .i64 n] w fun e w' => e = .returned (.bool (twoB a b n)) ∧ w' = w := by
 obtain ⟨q, hq⟩ : ∃ q, Hid (M1.inB a 1 n = q) := ⟨_, rfl⟩
 obtain ⟨z, hz⟩ : ∃ z, Hid (M1.inB b 1 n = z) := ⟨_, rfl⟩
 go_enter Tryz.func25, Tryz.ntmps25
 go_wp2_with fail
 refine (inRange_any _ _ _ _).mono ?_
 rw [hq.out]
 rintro e w1 ⟨rfl, hw1⟩
 obtain rfl := hw1.symm
 cases q with
 | false =>
  have HF : Hid (twoB a b n = false) := (by unfold twoB; rw [hq.out]; rfl : _ = _)
  go_wp2_with fail
  go_ret
  exact ⟨by rw [HF.out]; rfl, rfl⟩
 | true =>
  go_wp2_with fail
  refine (inRange_any _ _ _ _).mono ?_
  rw [hz.out]
  rintro e w1 ⟨rfl, hw1⟩
  obtain rfl := hw1.symm
  cases z with
  | false =>
   have HF : Hid (twoB a b n = false) := (by unfold twoB; rw [hq.out, hz.out]; rfl : _ = _)
   go_wp2_with fail
   go_ret
   exact ⟨by rw [HF.out]; rfl, rfl⟩
  | true =>
   by_cases hab : a = b
   ·have HF : Hid (twoB a b n = false) := (by unfold twoB; rw [hq.out, hz.out, hab]; simp : _ = _)
    go_wp2_with fail
    go_ret
    exact ⟨by rw [HF.out]; rfl, rfl⟩
   ·have HF : Hid (twoB a b n = true) := (by unfold twoB; rw [hq.out, hz.out]; simp [hab] : _ = _)
    have hne : (a != b) = true := by simp [hab]
    go_wp2_with fail
    go_ret
    exact ⟨by rw [HF.out]; simp [hab], rfl⟩

def contB (all : List M1.Upd) (m : M1.Ml) : Bool := if m.ask = true then M1.vecOk m.vec && decide (m.del.length = 0) else decide (m.vec.length = 0) && (decide (1 ≤ m.del.length ∧ m.del.length ≤ 3) && M1.allIn m.del all)

theorem inU_fd {all : List M1.Upd} {u x : M1.Upd} (h : M1.fd all u.dr u.dn = some x) (he : M1.ueq x u = true) : M1.inU all u = true := by
 obtain ⟨i, hi, e, _⟩ := M1.fd_some h
 exact M1.inU_yes hi (by rw [e]; exact he)

theorem inU_not {all : List M1.Upd} {u x : M1.Upd} (ha : M1.apart all) (h : M1.fd all u.dr u.dn = some x) (he : M1.ueq x u = false) : M1.inU all u = false := by
 obtain ⟨i, hi, e, e1, e2⟩ := M1.fd_some h
 refine M1.inU_no fun j hj => ?_
 by_cases hij : j = i
 ·rw [hij, e]; exact he
 ·cases q : M1.ueq (M1.up all j) u with
  | false => rfl
  | true =>
   exfalso
   unfold M1.ueq at q
   simp at q
   rcases Nat.lt_or_gt_of_ne hij with hlt | hgt
   ·exact ha j i hlt hi ⟨by rw [q.1, e, e1], by rw [q.2.1, e, e2]⟩
   ·exact ha i j hgt hj ⟨by rw [q.1, e, e1], by rw [q.2.1, e, e2]⟩

theorem inU_none {all : List M1.Upd} {u : M1.Upd} (h : M1.fd all u.dr u.dn = none) : M1.inU all u = false :=
 M1.inU_no fun j hj => by
  cases q : M1.ueq (M1.up all j) u with
  | false => rfl
  | true =>
   exfalso
   unfold M1.ueq at q
   simp at q
   exact M1.fd_none h j hj ⟨q.1, q.2.1⟩

attribute [local go_sem high] eqU
set_option maxHeartbeats 8000000 in
set_option maxRecDepth 100000 in
theorem contentOk_any (m : M1.Ml) (v : Option Addr) (n c : Nat) (v2 : Option Addr) (n2 c2 : Nat) (g : Nat) (all : List M1.Upd) (w : World) (hv : IsVec w v n c m.vec) (hu : IsUpds w v2 n2 c2 m.del) (hg : MapIs w g all) (hap : Hid (M1.apart all)) :
  Calls Tryz.prog 26 #[.agg #[.int .i64 m.fr, .int .i64 m.tt, .bool m.ask, .slice v n c, .slice v2 n2 c2], .map (some g)] w fun e w' => e = .returned (.bool (contB all m)) ∧ Below w.heap.size w w' := by
 have hm1 := hv.hcap
 have hm2 := hv.hmost
 have hm3 := hu.hcap
 have hm4 := hu.hmost
 unfold maxLen at hm2 hm4
 have hl1 : Hid (m.vec.length = n) := hv.hlen
 have hl2 : Hid (m.del.length = n2) := hu.hlen
 have hA : Below w.heap.size w (w.alloc (.cells #[.int .i64 m.fr, .int .i64 m.tt, .bool m.ask, .slice v n c, .slice v2 n2 c2] 62)) := (Below.refl _ _).alloc (Nat.le_refl _) _
 have P := r5_new w (.int .i64 m.fr) (.int .i64 m.tt) (.bool m.ask) (.slice v n c) (.slice v2 n2 c2) 62
 go_enter Tryz.func26, Tryz.ntmps26
 go_upto_region 1 with fail
 obtain ⟨W0, hW0⟩ : ∃ W, w.alloc (.cells #[.int .i64 m.fr, .int .i64 m.tt, .bool m.ask, .slice v n c, .slice v2 n2 c2] 62) = W := ⟨_, rfl⟩
 rw [hW0] at hA P ⊢
 clear hW0
 obtain ⟨p, hp⟩ : ∃ p, Hid (w.heap.size = p) := ⟨_, rfl⟩
 rw [hp.out] at P ⊢
 have hv0 := hv.below hA
 have hu0 := hu.below hA
 have hg0 := hg.below hA hg.lt
 obtain ⟨d0, d1, d2, d3, d4⟩ := r5_cells P
 have pl := P.lt
 obtain ⟨ask, hask⟩ : ∃ ask, Hid (m.ask = ask) := ⟨_, rfl⟩
 rw [hask.out] at d2
 cases ask with
 | true =>
  obtain ⟨q, hq⟩ : ∃ q, Hid (M1.vecOk m.vec = q) := ⟨_, rfl⟩
  go_wp2_with fail
  refine (vecOk_impl _ _ _ _ _ hv0).mono ?_
  rw [hq.out]
  rintro e w1 ⟨rfl, hb1⟩
  have B1 := hA.trans (hb1.mono hA.size)
  have P1 := RowAt.below P hb1
  clear d0 d1 d2 d3 d4 pl
  obtain ⟨d0, d1, d2, d3, d4⟩ := r5_cells P1
  have pl := P1.lt
  cases q with
  | false =>
   have HF : Hid (contB all m = false) := (by unfold contB; rw [hask.out, hq.out]; rfl : _ = _)
   go_wp2_with fail
   go_ret
   exact ⟨by rw [HF.out]; rfl, B1⟩
  | true =>
   by_cases hn2 : n2 = 0
   ·have HF : Hid (contB all m = true) := (by unfold contB; rw [hask.out, hq.out, hl2.out, hn2]; rfl : _ = _)
    have hn3 : (n2 : Int) = 0 := by omega
    go_wp2_with fail
    go_ret
    exact ⟨by rw [HF.out]; rfl, B1⟩
   ·have HF : Hid (contB all m = false) := (by unfold contB; rw [hask.out, hq.out, hl2.out]; simp [hn2] : _ = _)
    have hn3 : ¬ (n2 : Int) = 0 := by omega
    go_wp2_with fail
    go_ret
    exact ⟨by rw [HF.out]; simp [hn2], B1⟩
 | false =>
  by_cases hn : n = 0
  ·have hn1 : (n : Int) = 0 := by omega
   obtain ⟨q, hq⟩ : ∃ q, Hid (M1.inB (n2 : Int) 1 3 = q) := ⟨_, rfl⟩
   go_wp2_with fail
   refine (inRange_any _ _ _ _).mono ?_
   rw [hq.out]
   rintro e w1 ⟨rfl, hw1⟩
   obtain rfl := hw1.symm
   cases q with
   | false =>
    have HF : Hid (contB all m = false) := (by
     have h := hq.out
     simp [M1.inB] at h
     unfold contB; rw [hask.out, hl2.out]
     have : ¬ (1 ≤ n2 ∧ n2 ≤ 3) := by omega
     simp [this] : _ = _)
    go_wp2_with fail
    go_ret
    exact ⟨by rw [HF.out]; rfl, hA⟩
   | true =>
    have HC : Hid (contB all m = M1.allIn m.del all) := (by
     have h := M1.inB_true hq.out
     unfold contB; rw [hask.out, hl1.out, hl2.out]
     have : (1 ≤ n2 ∧ n2 ≤ 3) := by omega
     simp [this, hn] : _ = _)
    go_wp2_with fail
    go_loopw [34] (fun i wr => ∃ k : Nat, k ≤ n2 ∧ i = .int .i64 k ∧ Below W0.heap.size W0 wr ∧ Hid (∀ j, j < k → M1.inU all (M1.up m.del j) = true)) (fun i _ => n2 - (intOf i).toNat)
    case atStart => exact ⟨0, Nat.zero_le _, rfl, Below.refl _ _, fun j hj => absurd hj (Nat.not_lt_zero _)⟩
    case round =>
     obtain ⟨k, hk, rfl, hB, hall⟩ := hrel
     have B := hA.trans (hB.mono hA.size)
     by_cases hlt : k < n2
     ·have g2 := hu0.below hB
      have gm := hg0.below hB hg0.lt
      rcases g2.hlies with h0 | ⟨b, off, rfl, hb, hc⟩
      ·omega
      obtain ⟨c0, c1, c2, c3, c4, c5, c6, c7, c8, c9, c10, c11, c12⟩ := hc k hlt
      clear hc g2
      have i0 : (0 : Int) ≤ (k : Int) := by omega
      have i1 : (k : Int) < (n2 : Int) := by omega
      obtain ⟨u, hu'⟩ : ∃ u, Hid (M1.up m.del k = u) := ⟨_, rfl⟩
      rw [hu'.out] at c0 c1 c2 c3 c4 c5 c6 c7 c8 c9 c10 c11 c12
      have HN : Hid (M1.inU all u = false → contB all m = false) := fun h => by rw [HC.out]; exact M1.allIn_no (i := k) (by rw [hl2.out]; exact hlt) (by rw [hu'.out]; exact h)
      have HY : Hid (M1.inU all u = true → ∀ j, j < k + 1 → M1.inU all (M1.up m.del j) = true) := fun h j hj => by
       by_cases e : j = k
       ·rw [e, hu'.out]; exact h
       ·exact hall.out j (by omega)
      cases hf : M1.fd all u.dr u.dn with
      | none =>
       have hf' : Hid (M1.fd all u.dr u.dn = none) := hf
       clear hf
       have HF : Hid (contB all m = false) := HN.out (inU_none hf'.out)
       go_wp2_with (at_lookup; refine wpList_lookV rfl _ _ rfl g all u.dr u.dn rfl (gm.alloc _) rfl M1.zeroU false (by rw [hf'.out]; rfl) (by rw [hf'.out]; rfl) ?_)
       go_ret
       refine ⟨by rw [HF.out]; rfl, ?_⟩
       exact (B.alloc B.size _).alloc (Nat.le_trans B.size (by simp)) _
      | some x =>
       have hf' : Hid (M1.fd all u.dr u.dn = some x) := hf
       clear hf
       by_cases he : M1.ueq x u = true
       ·have HA := HY.out (inU_fd hf'.out he)
        have HA' : Hid (∀ j, j < k + 1 → M1.inU all (M1.up m.del j) = true) := HA
        clear HA
        go_wp2_with (at_lookup; refine wpList_lookV rfl _ _ rfl g all u.dr u.dn rfl (gm.alloc _) rfl x true (by rw [hf'.out]; rfl) (by rw [hf'.out]; rfl) ?_)
        refine ⟨⟨k + 1, by omega, by go_num, ?_, HA'⟩, by simp [intOf]; omega⟩
        exact (hB.alloc hB.size _).alloc (Nat.le_trans hB.size (by simp)) _
       ·replace he : M1.ueq x u = false := by simpa using he
        have HF : Hid (contB all m = false) := HN.out (inU_not hap.out hf'.out he)
        go_wp2_with (at_lookup; refine wpList_lookV rfl _ _ rfl g all u.dr u.dn rfl (gm.alloc _) rfl x true (by rw [hf'.out]; rfl) (by rw [hf'.out]; rfl) ?_)
        go_ret
        refine ⟨by rw [HF.out]; rfl, ?_⟩
        exact (B.alloc B.size _).alloc (Nat.le_trans B.size (by simp)) _
     ·have HT : Hid (contB all m = true) := (by rw [HC.out]; exact M1.allIn_yes fun i hi => hall.out i (by rw [hl2.out] at hi; omega) : _ = _)
      go_wp2_with fail
      go_ret
      exact ⟨by rw [HT.out]; rfl, B⟩
  ·have hn1 : ¬ (n : Int) = 0 := by omega
   have HF : Hid (contB all m = false) := (by unfold contB; rw [hask.out, hl1.out]; simp [hn] : _ = _)
   go_wp2_with fail
   go_ret
   exact ⟨by rw [HF.out]; rfl, hA⟩

theorem mailB_two (n : Nat) (all : List M1.Upd) (m : M1.Ml) : M1.mailB n all m = (twoB m.fr m.tt n && contB all m) := by
 unfold M1.mailB twoB contB; simp only [Bool.and_assoc]

theorem wAll_set {rs : List M1.Rg} {n : Nat} {l : List M1.Upd} (h : M1.wAll rs n = some l) : M1.setOk l = true := by
 cases q : M1.uni rs n with
 | none => rw [M1.wAll_2 q] at h; cases h
 | some m =>
  cases z : M1.ownsB rs n m with
  | false => rw [M1.wAll_3 q z] at h; cases h
  | true =>
   cases t : M1.regsB rs n with
   | false => rw [M1.wAll_1 t] at h; cases h
   | true => rw [M1.wAll_0 t q z] at h; injection h with h; rw [← h]; exact M1.uni_set q

set_option maxHeartbeats 8000000 in
set_option maxRecDepth 100000 in
theorem worldOk_impl (now : Int) (v : Option Addr) (n c : Nat) (rs : List M1.Rg) (v2 : Option Addr) (n2 c2 : Nat) (ms : List M1.Ml) (w : World) (hr : IsRgs w v n c rs) (hm : IsMls w v2 n2 c2 ms) :
  Calls Tryz.prog 7 #[.agg #[.int .i64 now, .slice v n c, .slice v2 n2 c2]] w fun e w' => e = .returned (.bool (M1.wOk now rs ms)) ∧ Below w.heap.size w w' := by
 have hm1 := hr.hcap
 have hm2 := hr.hmost
 have hm3 := hm.hcap
 have hm4 := hm.hmost
 unfold maxLen at hm2 hm4
 have hl1 : Hid (rs.length = n) := hr.hlen
 have hl2 : Hid (ms.length = n2) := hm.hlen
 have hA : Below w.heap.size w (w.alloc (.cells #[.int .i64 now, .slice v n c, .slice v2 n2 c2] 27)) := (Below.refl _ _).alloc (Nat.le_refl _) _
 have P := r3_new w (.int .i64 now) (.slice v n c) (.slice v2 n2 c2) 27
 go_enter Tryz.func7, Tryz.ntmps7
 go_upto_region 1 with fail
 obtain ⟨W0, hW0⟩ : ∃ W, w.alloc (.cells #[.int .i64 now, .slice v n c, .slice v2 n2 c2] 27) = W := ⟨_, rfl⟩
 rw [hW0] at hA P ⊢
 clear hW0
 obtain ⟨p, hp⟩ : ∃ p, Hid (w.heap.size = p) := ⟨_, rfl⟩
 rw [hp.out] at P ⊢
 have hr0 := hr.below hA
 have hm0 := hm.below hA
 obtain ⟨d0, d1, d2⟩ := r3_cells P
 have pl := P.lt
 obtain ⟨q, hq⟩ : ∃ q, Hid (M1.inB now 0 1000000000 = q) := ⟨_, rfl⟩
 obtain ⟨z, hz⟩ : ∃ z, Hid (M1.inB (n : Int) 2 5 = z) := ⟨_, rfl⟩
 go_wp2_with fail
 refine (timeOk_any _ _).mono ?_
 rw [hq.out]
 rintro e w1 ⟨rfl, hw1⟩
 obtain rfl := hw1.symm
 cases q with
 | false =>
  have HF : Hid (M1.wOk now rs ms = false) := M1.wOk_1 (by unfold M1.wHead; rw [hq.out]; rfl)
  go_wp2_with fail
  go_ret
  exact ⟨by rw [HF.out]; rfl, hA⟩
 | true =>
  go_wp2_with fail
  refine (inRange_any _ _ _ _).mono ?_
  rw [hz.out]
  rintro e w1 ⟨rfl, hw1⟩
  obtain rfl := hw1.symm
  cases z with
  | false =>
   have HF : Hid (M1.wOk now rs ms = false) := M1.wOk_1 (by unfold M1.wHead; rw [hl1.out, hz.out]; simp)
   go_wp2_with fail
   go_ret
   exact ⟨by rw [HF.out]; rfl, hA⟩
  | true =>
   by_cases h40 : n2 ≤ 40
   ·have hng : ¬ (40 : Int) < (n2 : Int) := by omega
    have hng2 : ¬ 40 < n2 := by omega
    have HD : Hid (M1.wHead now rs.length ms.length = true) := (by unfold M1.wHead; rw [hl1.out, hl2.out, hq.out, hz.out, decide_eq_true h40]; rfl : _ = _)
    obtain ⟨o, ho⟩ : ∃ o, Hid (M1.wAll rs n = o) := ⟨_, rfl⟩
    go_wp2_with fail
    refine (allOf_any _ _ _ rs _ hr0).mono ?_
    rw [ho.out]
    rintro e w1 ⟨hO, hb1⟩
    have B1 := hA.trans (hb1.mono hA.size)
    have P1 := RowAt.below P hb1
    clear d0 d1 d2 pl
    obtain ⟨d0, d1, d2⟩ := r3_cells P1
    have pl := P1.lt
    cases o with
    | none =>
     have HF : Hid (M1.wOk now rs ms = false) := M1.wOk_2 HD.out (by rw [hl1.out]; exact ho.out)
     have hO' : e = .returned (.tuple #[.map none, .bool false]) := hO
     clear hO
     subst hO'
     go_wp2_with fail
     go_ret
     exact ⟨by rw [HF.out]; rfl, B1⟩
    | some l =>
     have HC : Hid (M1.wOk now rs ms = M1.mailsB n l ms) := (by rw [M1.wOk_3 HD.out (by rw [hl1.out]; exact ho.out), hl1.out] : _ = _)
     have hap : Hid (M1.apart l) := M1.ok_apart (M1.setOk_all (wAll_set ho.out))
     obtain ⟨g, rfl, hg, hmap⟩ := hO
     have hgl := hmap.lt
     clear hg
     go_wp2_with fail
     go_loopw [37] (fun i wr => ∃ k : Nat, k ≤ n2 ∧ i = .int .i64 k ∧ Below w1.heap.size w1 wr ∧ Hid (∀ j, j < k → M1.mailB n l (M1.mlA ms j) = true)) (fun i _ => n2 - (intOf i).toNat)
     case atStart => exact ⟨0, Nat.zero_le _, rfl, Below.refl _ _, fun j hj => absurd hj (Nat.not_lt_zero _)⟩
     case round =>
      obtain ⟨k, hk, rfl, hB, hall⟩ := hrel
      have B := B1.trans (hB.mono B1.size)
      by_cases hlt : k < n2
      ·have g2 := hm.below B
       have gm := hmap.below hB hgl
       rcases g2.hlies with h0 | ⟨b, off, rfl, hb, hc⟩
       ·omega
       obtain ⟨v3, n3, c3, v4, n4, c4, e0, e1, e2, e3, e4, hv, hu⟩ := hc k hlt
       clear hc g2
       have i0 : (0 : Int) ≤ (k : Int) := by omega
       have i1 : (k : Int) < (n2 : Int) := by omega
       obtain ⟨m, hm'⟩ : ∃ m, Hid (M1.mlA ms k = m) := ⟨_, rfl⟩
       rw [hm'.out] at e0 e1 e2 hv hu
       have HN : Hid (M1.mailB n l m = false → M1.wOk now rs ms = false) := fun h => by rw [HC.out]; exact M1.mailsB_no (i := k) (by rw [hl2.out]; exact hlt) (by rw [hm'.out]; exact h)
       have hA2 : Below wr.heap.size wr (wr.alloc (.cells #[.int .i64 m.fr, .int .i64 m.tt, .bool m.ask, .slice v3 n3 c3, .slice v4 n4 c4] 62)) := (Below.refl _ _).alloc (Nat.le_refl _) _
       have Q := r5_new wr (.int .i64 m.fr) (.int .i64 m.tt) (.bool m.ask) (.slice v3 n3 c3) (.slice v4 n4 c4) 62
       go_upto_region 10 with fail
       obtain ⟨W2, hW2⟩ : ∃ W, wr.alloc (.cells #[.int .i64 m.fr, .int .i64 m.tt, .bool m.ask, .slice v3 n3 c3, .slice v4 n4 c4] 62) = W := ⟨_, rfl⟩
       rw [hW2] at hA2 Q ⊢
       clear hW2
       obtain ⟨y, hy⟩ : ∃ y, Hid (wr.heap.size = y) := ⟨_, rfl⟩
       rw [hy.out] at Q ⊢
       clear e0 e1 e2 e3 e4
       obtain ⟨e0, e1, e2, e3, e4⟩ := r5_cells Q
       have ql := Q.lt
       have hB2 := hB.trans (hA2.mono hB.size)
       have B2 := B1.trans (hB2.mono B1.size)
       have hv2 := hv.below hA2
       have hu2 := hu.below hA2
       have gm2 := gm.below hA2 gm.lt
       obtain ⟨a, ha⟩ : ∃ a, Hid (twoB m.fr m.tt n = a) := ⟨_, rfl⟩
       obtain ⟨d, hd⟩ : ∃ d, Hid (contB l m = d) := ⟨_, rfl⟩
       go_wp2_with fail
       refine (twoOf_any _ _ _ _).mono ?_
       rw [ha.out]
       rintro e w3 ⟨rfl, hw3⟩
       obtain rfl := hw3.symm
       cases a with
       | false =>
        have HF : Hid (M1.wOk now rs ms = false) := HN.out (by rw [mailB_two, ha.out]; rfl)
        go_wp2_with fail
        go_ret
        exact ⟨by rw [HF.out]; rfl, B2⟩
       | true =>
        go_wp2_with fail
        refine (contentOk_any m _ _ _ _ _ _ g l _ hv2 hu2 gm2 hap).mono ?_
        rw [hd.out]
        rintro e w3 ⟨rfl, hb3⟩
        have hB3 := hB2.trans (hb3.mono hB2.size)
        have B3 := B1.trans (hB3.mono B1.size)
        cases d with
        | false =>
         have HF : Hid (M1.wOk now rs ms = false) := HN.out (by rw [mailB_two, ha.out, hd.out]; rfl)
         go_wp2_with fail
         go_ret
         exact ⟨by rw [HF.out]; rfl, B3⟩
        | true =>
         have HA : Hid (∀ j, j < k + 1 → M1.mailB n l (M1.mlA ms j) = true) := fun j hj => by
          by_cases e : j = k
          ·rw [e, hm'.out, mailB_two, ha.out, hd.out]; rfl
          ·exact hall.out j (by omega)
         go_wp2_with fail
         exact ⟨⟨k + 1, by omega, by go_num, hB3, HA⟩, by simp [intOf]; omega⟩
      ·have HT : Hid (M1.wOk now rs ms = true) := (by rw [HC.out]; exact M1.mailsB_yes fun i hi => hall.out i (by rw [hl2.out] at hi; omega) : _ = _)
       go_wp2_with fail
       go_ret
       exact ⟨by rw [HT.out]; rfl, B⟩
   ·have hgt : (40 : Int) < (n2 : Int) := by omega
    have hgt2 : 40 < n2 := by omega
    have HF : Hid (M1.wOk now rs ms = false) := M1.wOk_1 (by unfold M1.wHead; rw [hl1.out, hl2.out, decide_eq_false h40]; simp)
    go_wp2_with fail
    go_ret
    exact ⟨by rw [HF.out]; rfl, hA⟩

end Go.Proofs.YtgcinolbkllkkaaGreat
