/-
  Texts of one proof, joined: JdI, AllR, TkN.
-/
import Derived.Test.YtccendmoeelniaaGreatDoorZFSameOps12
import Derived.Test.YtccendmoeelniaaGreatDoorZFSameOps31
import Derived.Test.YtccendmoeelniaaGreatDoorZFSameOps00
import Derived.Test.YtccendmoeelniaaGreatDoorZFSameOps21
import Derived.Test.YtccendmoeelniaaGreatDoorZFSameOps13
namespace Go.Proofs.YtccendmoeelniaaGreatDoor
open Go.ChangeShapes Go.WideShapes Go.ChangeAt Go.RowKit
set_option linter.unusedSimpArgs false
set_option linter.unusedVariables false
def Jd (w w' : World) (e : Ending) (ns : List M1.Upd) (ok : Bool) : Prop := ∃ av cap, e = .returned (.tuple #[.slice av ns.length cap, .bool ok]) ∧ MU w' av ns.length cap w.heap.size w'.heap.size (ucell ns)

theorem jd_nil (w w' : World) : Jd w w' (.returned (.tuple #[.slice none 0 0, .bool false])) [] false := ⟨none, 0, rfl, Nat.le_refl _, Nat.zero_le _, Or.inl ⟨rfl, rfl⟩⟩

set_option maxHeartbeats 40000000 in
set_option maxRecDepth 100000 in
theorem joined_impl (av bv : Option Addr) (n cn m cm : Nat) (xs ys : List M1.Upd) (w : World) (h1 : IsUpds w av n cn xs) (h2 : IsUpds w bv m cm ys) :
  Calls Tryz.prog 25 #[.slice av n cn, .slice bv m cm] w fun e w' => Jd w w' e (M1.jL xs ys) (M1.jOk xs ys) ∧ Below w.heap.size w w' := by
 have hl2 : Hid (ys.length = m) := h2.hlen
 have hl1 : Hid (xs.length = n) := h1.hlen
 have hm3 := h2.hcap
 have hm4 := h2.hmost
 unfold maxLen at hm4
 by_cases hag : M1.agreeB xs ys = true
 ·have HAG : Hid (M1.agreeB xs ys = true) := hag
  obtain ⟨hs1, hs2, hs3⟩ := M1.agreeB_true hag
  have ha : Hid (M1.apart xs) := M1.ok_apart (M1.setOk_all hs1)
  have hx60 := M1.setOk_len hs1
  have hy60 := M1.setOk_len hs2
  have hsrt := M1.jl_all (ys := ys) (M1.ok_sorted (M1.setOk_all hs1)) ys.length
  have HSRT : Hid ((M1.jl xs ys).Pairwise M1.dd ∧ (M1.putsTo xs ys ys.length).Perm (M1.jl xs ys)) := hsrt
  have HLEN : Hid ((M1.putsTo xs ys ys.length).length ≤ 1000) := (by have := M1.puts_len (xs := xs) (ys := ys) ys.length; omega : (M1.putsTo xs ys ys.length).length ≤ 1000)
  clear hs1 hs2 hs3 hsrt hx60 hy60
  go_enter Tryz.func25, Tryz.ntmps25
  go_wp2_with fail
  refine (agree_impl _ _ _ _ _ _ _ _ _ h1 h2).mono ?_
  rw [hag]
  clear hag
  rintro e w1 ⟨rfl, hb1⟩
  go_wp2_with fail
  refine (setFromN_any _ _ _ _ _ (h1.below hb1) ha).mono ?_
  rintro e w2 ⟨⟨b, rfl, hbb, hM2⟩, hb2⟩
  have hB2 := hb1.trans (hb2.mono hb1.size)
  have hs1 := hb1.size
  go_wp2_with fail
  go_loopw [17] (fun i wr => ∃ k : Nat, k ≤ m ∧ i = .int .i64 k ∧ Below w.heap.size w wr ∧ MapN wr b (M1.putsTo xs ys k)) (fun i _ => m - (intOf i).toNat)
  case atStart => exact ⟨0, Nat.zero_le _, rfl, hB2, hM2⟩
  case round =>
   clear hM2 hB2
   obtain ⟨k, hk, rfl, hB, hmap⟩ := hrel
   have hs0 := hmap.lt
   have hsz := hB.size
   by_cases hlt : k < m
   ·have g1 := h2.below hB
    rcases g1.hlies with h0 | ⟨c, off, rfl, hb, hc⟩
    ·omega
    obtain ⟨c0, c1, c2, c3, c4, c5, c6, c7, c8, c9, c10, c11, c12⟩ := hc k hlt
    have i0 : (0 : Int) ≤ (k : Int) := by omega
    have i1 : (k : Int) < (m : Int) := by omega
    clear hc g1
    have hsame : Hid (∀ x, M1.fd (M1.putsTo xs ys k) (M1.up ys k).dr (M1.up ys k).dn = some x → x = M1.up ys k) := M1.puts_same HAG.out (by rw [hl2.out]; exact hlt)
    go_wp2_with (at_mapUpdate; refine wpList_putN rfl _ _ _ rfl b (M1.putsTo xs ys k) (M1.up ys k) rfl (hmap.alloc _) hsame.out rfl rfl ?_; intro w3 hm3 hg3)
    exact ⟨⟨k + 1, by omega, by go_num, (hB.alloc hB.size _).grown hg3 (by simp; omega) (fun j e => by cases e; omega), hm3⟩, by simp [intOf]; omega⟩
   ·have hkm : Hid (k = ys.length) := (by have := hl2.out; omega : k = ys.length)
    rw [hkm.out] at hmap
    go_wp2_with fail
    refine (told_any b _ _ hmap (M1.puts_txt HAG.out) HLEN.out).mono ?_
    rintro e w4 ⟨ns, hp, hso, hres, hb4⟩
    have hns : ns = M1.jl xs ys := M1.told_is HSRT.out.1 HSRT.out.2 hp hso
    subst hns
    have hB4 := hB.trans (hb4.mono hB.size)
    clear hp hso hmap
    rcases hres with ⟨hok, av4, cap4, rfl, mu4⟩ | ⟨hok, rfl⟩
    ·have q := M1.j_yes HAG.out hok
     have Q1 : Hid (M1.jOk xs ys = true) := q.1
     have Q2 : Hid (M1.jL xs ys = M1.jl xs ys) := q.2
     clear q hok
     go_wp2_with fail
     refine bodyPost_ret (v := .tuple #[.slice av4 (M1.jl xs ys).length cap4, .bool true]) (by simp [results, Tryz.results25, go_sem]) rfl ⟨?_, hB4⟩
     rw [Q1.out, Q2.out]
     exact ⟨av4, cap4, rfl, mu4.1, mu4.2.1, mu4.2.2.imp id fun ⟨g, e, h3, h4, r⟩ => ⟨g, e, by omega, h4, r⟩⟩
    ·have q := M1.j_not hok
     have Q1 : Hid (M1.jOk xs ys = false) := q.1
     have Q2 : Hid (M1.jL xs ys = []) := q.2
     clear q hok
     go_wp2_with fail
     refine bodyPost_ret (v := .tuple #[.slice none 0 0, .bool false]) (by simp [results, Tryz.results25, go_sem]) rfl ⟨?_, hB4⟩
     rw [Q1.out, Q2.out]
     exact jd_nil _ _
 ·replace hag : M1.agreeB xs ys = false := by simpa using hag
  have q := M1.j_no hag
  rw [q.1, q.2]
  clear q
  go_enter Tryz.func25, Tryz.ntmps25
  go_wp2_with fail
  refine (agree_impl _ _ _ _ _ _ _ _ _ h1 h2).mono ?_
  rw [hag]
  rintro e w1 ⟨rfl, hb1⟩
  go_wp2_with fail
  refine bodyPost_ret (v := .tuple #[.slice none 0 0, .bool false]) (by simp [results, Tryz.results25, go_sem]) rfl ⟨jd_nil _ _, hb1⟩

end Go.Proofs.YtccendmoeelniaaGreatDoor

namespace Go.Proofs.YtccendmoeelniaaGreatDoor
open Go.ChangeShapes Go.WideShapes Go.ChangeAt Go.RowKit
set_option linter.unusedSimpArgs false
set_option linter.unusedVariables false
theorem row5l (w : World) (a b c d e : Int) (t : TypeId) (f : Nat → Value) (h0 : f 0 = .int .i64 a) (h1 : f 1 = .int .i64 b) (h2 : f 2 = .int .i64 c) (h3 : f 3 = .int .i64 d) (h4 : f 4 = .int .i64 e) : RowAt (w.alloc (.cells #[.int .i64 a, .int .i64 b, .int .i64 c, .int .i64 d, .int .i64 e] t)) w.heap.size 5 f :=
 (RowAt.new w #[.int .i64 a, .int .i64 b, .int .i64 c, .int .i64 d, .int .i64 e] t).same fun o ho => by
  match o, ho with
  | 0, _ => exact h0.symm
  | 1, _ => exact h1.symm
  | 2, _ => exact h2.symm
  | 3, _ => exact h3.symm
  | 4, _ => exact h4.symm

theorem rowg {a b : World} {g m : Nat} {f : Nat → Value} {row : Option Nat} (h : RowAt a g m f) (hg : a.grownBy b row) (hn : ∀ k, row = some k → ¬ k = g) : RowAt b g m f := by
 have e := hg.block g h.lt (fun e => hn g e.symm rfl)
 exact ⟨Nat.lt_of_lt_of_le h.1 hg.size, fun o ho => ⟨(World.cell?_of_block (w := a) (a := ⟨g, o, none⟩) e).trans (h.2 o ho).1, (World.frozen?_of_block (w := a) (a := ⟨g, o, none⟩) e).trans (h.2 o ho).2⟩⟩

set_option maxHeartbeats 8000000 in
set_option maxRecDepth 100000 in
theorem allRight_any (av : Option Addr) (n cn : Nat) (us : List M1.Upd) (w : World) (h1 : IsUpds w av n cn us) :
  Calls Tryz.prog 62 #[.slice av n cn] w fun e w' => e = .returned (.bool (M1.allR us)) ∧ Below w.heap.size w w' := by
 have hl1 : Hid (us.length = n) := h1.hlen
 have hm1 := h1.hcap
 have hm2 := h1.hmost
 unfold maxLen at hm2
 go_enter Tryz.func62, Tryz.ntmps62
 go_wp2_with fail
 go_loopw [7] (fun i wr => ∃ k : Nat, k ≤ n ∧ i = .int .i64 k ∧ Below w.heap.size w wr ∧ Hid (∀ j, j < k → M1.okU (M1.up us j) = true)) (fun i _ => n - (intOf i).toNat)
 case atStart => exact ⟨0, Nat.zero_le _, rfl, Below.refl _ _, fun j hj => absurd hj (Nat.not_lt_zero _)⟩
 case round =>
  obtain ⟨k, hk, rfl, hB, hall⟩ := hrel
  by_cases hlt : k < n
  ·have g1 := h1.below hB
   rcases g1.hlies with h0 | ⟨b, off, rfl, hb, hc⟩
   ·omega
   obtain ⟨c0, c1, c2, c3, c4, c5, c6, c7, c8, c9, c10, c11, c12⟩ := hc k hlt
   have hs := h1.htxt k hlt
   have i0 : (0 : Int) ≤ (k : Int) := by omega
   have i1 : (k : Int) < (n : Int) := by omega
   clear hc g1
   by_cases hu : M1.okU (M1.up us k) = true
   ·have hok : M1.updB (M1.up us k).dr (M1.up us k).dn (M1.up us k).sw (M1.up us k).sc (M1.up us k).sr (M1.up us k).k (M1.up us k).tr (M1.up us k).id (M1.up us k).pa (M1.up us k).s (M1.up us k).st (M1.up us k).en (M1.up us k).lv = true := hu
    have HQ : Hid (∀ j, j < k + 1 → M1.okU (M1.up us j) = true) := fun j hj => by
     by_cases e : j = k
     ·rw [e]; exact hu
     ·exact hall.out j (by omega)
    clear hall hu
    go_wp2_with fail
    refine (updateOk_impl _ _ _ _ _ _ _ _ _ _ _ _ _ _ hs).mono ?_
    rw [hok]
    rintro e w1 ⟨rfl, hb1⟩
    have hB1 : Below w.heap.size w w1 := (hB.alloc hB.size _).trans (hb1.mono (by have := hB.size; simp; omega))
    go_wp2_with fail
    exact ⟨⟨k + 1, by omega, by go_num, hB1, HQ⟩, by simp [intOf]; omega⟩
   ·replace hu : M1.okU (M1.up us k) = false := by simpa using hu
    have hok : M1.updB (M1.up us k).dr (M1.up us k).dn (M1.up us k).sw (M1.up us k).sc (M1.up us k).sr (M1.up us k).k (M1.up us k).tr (M1.up us k).id (M1.up us k).pa (M1.up us k).s (M1.up us k).st (M1.up us k).en (M1.up us k).lv = false := hu
    have HQ : Hid (M1.allR us = false) := M1.allR_no (j := k) (by rw [hl1.out]; exact hlt) hu
    clear hall hu
    go_wp2_with fail
    refine (updateOk_impl _ _ _ _ _ _ _ _ _ _ _ _ _ _ hs).mono ?_
    rw [hok]
    rintro e w1 ⟨rfl, hb1⟩
    have hB1 : Below w.heap.size w w1 := (hB.alloc hB.size _).trans (hb1.mono (by have := hB.size; simp; omega))
    go_wp2_with fail
    go_ret
    exact ⟨by rw [HQ.out]; rfl, hB1⟩
  ·have HQ : Hid (M1.allR us = true) := M1.allR_yes fun j hj => hall.out j (by have := hl1.out; omega)
   clear hall
   go_wp2_with fail
   go_ret
   exact ⟨by rw [HQ.out]; rfl, hB⟩

end Go.Proofs.YtccendmoeelniaaGreatDoor

namespace Go.Proofs.YtccendmoeelniaaGreatDoor
open Go.ChangeShapes Go.WideShapes Go.ChangeAt Go.RowKit
set_option linter.unusedSimpArgs false
set_option linter.unusedVariables false
set_option maxHeartbeats 8000000 in
set_option maxRecDepth 100000 in
theorem taken_no (av bv : Option Addr) (n cn m cm : Nat) (xs ys : List M1.Upd) (w : World) (h1 : IsUpds w av n cn xs) (h2 : IsUpds w bv m cm ys) (hp : M1.tpre xs ys = false) :
  Calls Tryz.prog 22 #[.slice av n cn, .slice bv m cm] w fun e w' => Jd w w' e [] false ∧ Below w.heap.size w w' := by
 have hl2 : Hid (ys.length = m) := h2.hlen
 have hm3 := h2.hcap
 have hm4 := h2.hmost
 unfold maxLen at hm4
 by_cases hs1 : M1.setOk xs = true
 ·by_cases hm60 : m ≤ 60
  ·have hgt : decide ((60 : Int) < (m : Int)) = false := decide_eq_false (by omega)
   have hgt2 : decide (60 < m) = false := decide_eq_false (by omega)
   have hs3 : M1.allR ys = false := by
    have : ys.length ≤ 60 := by have := hl2.out; omega
    simpa [M1.tpre, hs1, this] using hp
   go_enter Tryz.func22, Tryz.ntmps22
   go_wp2_with fail
   refine (setOk_impl _ _ _ _ _ h1).mono ?_
   rw [hs1]
   rintro e w1 ⟨rfl, hb1⟩
   go_wp2_with fail
   refine (allRight_any _ _ _ _ _ (h2.below hb1)).mono ?_
   rw [hs3]
   rintro e w2 ⟨rfl, hb2⟩
   have B2 := hb1.trans (hb2.mono hb1.size)
   go_wp2_with fail
   exact bodyPost_ret (v := .tuple #[.slice none 0 0, .bool false]) (by simp [results, Tryz.results22, go_sem]) rfl ⟨jd_nil _ _, B2⟩
  ·have hgt : decide ((60 : Int) < (m : Int)) = true := decide_eq_true (by omega)
   have hgt2 : decide (60 < m) = true := decide_eq_true (by omega)
   go_enter Tryz.func22, Tryz.ntmps22
   go_wp2_with fail
   refine (setOk_impl _ _ _ _ _ h1).mono ?_
   rw [hs1]
   rintro e w1 ⟨rfl, hb1⟩
   go_wp2_with fail
   exact bodyPost_ret (v := .tuple #[.slice none 0 0, .bool false]) (by simp [results, Tryz.results22, go_sem]) rfl ⟨jd_nil _ _, hb1⟩
 ·replace hs1 : M1.setOk xs = false := by simpa using hs1
  go_enter Tryz.func22, Tryz.ntmps22
  go_wp2_with fail
  refine (setOk_impl _ _ _ _ _ h1).mono ?_
  rw [hs1]
  rintro e w1 ⟨rfl, hb1⟩
  go_wp2_with fail
  exact bodyPost_ret (v := .tuple #[.slice none 0 0, .bool false]) (by simp [results, Tryz.results22, go_sem]) rfl ⟨jd_nil _ _, hb1⟩

end Go.Proofs.YtccendmoeelniaaGreatDoor
