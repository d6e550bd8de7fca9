/-
  Texts of one proof, joined: JdI, AllR, TkN.
-/
import Derived.Test.YtccendmoeelniaaGreatDoorZIssued18
import Derived.Test.YtccendmoeelniaaGreatDoorZIssued31
import Derived.Test.YtccendmoeelniaaGreatDoorZIssued04
import Derived.Test.YtccendmoeelniaaGreatDoorZIssued23
import Derived.Test.YtccendmoeelniaaGreatDoorZIssued19
namespace Go.Proofs.YtccendmoeelniaaGreatDoor
open Go.ChangeShapes Go.WideShapes Go.ChangeAt Go.RowKit
set_option linter.unusedSimpArgs false
set_option linter.unusedVariables false
def Jd (w w' : World) (e : Ending) (ns : List M1.Upd) (ok : Bool) : Prop := ∃ av cap, e = .returned (.tuple #[.slice av ns.length cap, .bool ok]) ∧ MU w' av ns.length cap w.heap.size w'.heap.size (ucell ns)

theorem jd_nil (w w' : World) : Jd w w' (.returned (.tuple #[.slice none 0 0, .bool false])) [] false := ⟨none, 0, rfl, Nat.le_refl _, Nat.zero_le _, Or.inl ⟨rfl, rfl⟩⟩

end Go.Proofs.YtccendmoeelniaaGreatDoor

namespace Go.Proofs.YtccendmoeelniaaGreatDoor
open Go.ChangeShapes Go.WideShapes Go.ChangeAt Go.RowKit
set_option linter.unusedSimpArgs false
set_option linter.unusedVariables false
theorem row5l (w : World) (a b c d e : Int) (t : TypeId) (f : Nat → Value) (h0 : f 0 = .int .i64 a) (h1 : f 1 = .int .i64 b) (h2 : f 2 = .int .i64 c) (h3 : f 3 = .int .i64 d) (h4 : f 4 = .int .i64 e) : RowAt (w.alloc (.cells #[.int .i64 a, .int .i64 b, .int .i64 c, .int .i64 d, .int .i64 e] t)) w.heap.size 5 f :=
  (RowAt.new w #[.int .i64 a, .int .i64 b, .int .i64 c, .int .i64 d, .int .i64 e] t).same fun o ho => by
    match o, ho with
    | 0, _ => exact h0.symm
    | 1, _ => exact h1.symm
    | 2, _ => exact h2.symm
    | 3, _ => exact h3.symm
    | 4, _ => exact h4.symm

theorem rowg {a b : World} {g m : Nat} {f : Nat → Value} {row : Option Nat} (h : RowAt a g m f) (hg : a.grownBy b row) (hn : ∀ k, row = some k → ¬ k = g) : RowAt b g m f := by
  have e := hg.block g h.lt (fun e => hn g e.symm rfl)
  exact ⟨Nat.lt_of_lt_of_le h.1 hg.size, fun o ho => ⟨(World.cell?_of_block (w := a) (a := ⟨g, o, none⟩) e).trans (h.2 o ho).1, (World.frozen?_of_block (w := a) (a := ⟨g, o, none⟩) e).trans (h.2 o ho).2⟩⟩

set_option maxHeartbeats 8000000 in
set_option maxRecDepth 100000 in
theorem allRight_any (av : Option Addr) (n cn : Nat) (us : List M1.Upd) (w : World) (h1 : IsUpds w av n cn us) :
    Calls Tryz.prog 62 #[.slice av n cn] w fun e w' => e = .returned (.bool (M1.allR us)) ∧ Below w.heap.size w w' := by
  have hl1 : Hid (us.length = n) := h1.hlen
  have hm1 := h1.hcap
  have hm2 := h1.hmost
  unfold maxLen at hm2
  go_enter Tryz.func62, Tryz.ntmps62
  go_wp2_with fail
  go_loopw [7] (fun i wr => ∃ k : Nat, k ≤ n ∧ i = .int .i64 k ∧ Below w.heap.size w wr ∧ Hid (∀ j, j < k → M1.okU (M1.up us j) = true)) (fun i _ => n - (intOf i).toNat)
  case atStart => exact ⟨0, Nat.zero_le _, rfl, Below.refl _ _, fun j hj => absurd hj (Nat.not_lt_zero _)⟩
  case round =>
    obtain ⟨k, hk, rfl, hB, hall⟩ := hrel
    by_cases hlt : k < n
    · have g1 := h1.below hB
      rcases g1.hlies with h0 | ⟨b, off, rfl, hb, hc⟩
      · omega
      obtain ⟨c0, c1, c2, c3, c4, c5, c6, c7, c8, c9, c10, c11, c12⟩ := hc k hlt
      have hs := h1.htxt k hlt
      have i0 : (0 : Int) ≤ (k : Int) := by omega
      have i1 : (k : Int) < (n : Int) := by omega
      clear hc g1
      by_cases hu : M1.okU (M1.up us k) = true
      · have hok : M1.updB (M1.up us k).dr (M1.up us k).dn (M1.up us k).sw (M1.up us k).sc (M1.up us k).sr (M1.up us k).k (M1.up us k).tr (M1.up us k).id (M1.up us k).pa (M1.up us k).s (M1.up us k).st (M1.up us k).en (M1.up us k).lv = true := hu
        have HQ : Hid (∀ j, j < k + 1 → M1.okU (M1.up us j) = true) := fun j hj => by
          by_cases e : j = k
          · rw [e]; exact hu
          · exact hall.out j (by omega)
        clear hall hu
        go_wp2_with fail
        refine (updateOk_impl _ _ _ _ _ _ _ _ _ _ _ _ _ _ hs).mono ?_
        rw [hok]
        rintro e w1 ⟨rfl, hb1⟩
        have hB1 : Below w.heap.size w w1 := (hB.alloc hB.size _).trans (hb1.mono (by have := hB.size; simp; omega))
        go_wp2_with fail
        exact ⟨⟨k + 1, by omega, by go_num, hB1, HQ⟩, by simp [intOf]; omega⟩
      · replace hu : M1.okU (M1.up us k) = false := by simpa using hu
        have hok : M1.updB (M1.up us k).dr (M1.up us k).dn (M1.up us k).sw (M1.up us k).sc (M1.up us k).sr (M1.up us k).k (M1.up us k).tr (M1.up us k).id (M1.up us k).pa (M1.up us k).s (M1.up us k).st (M1.up us k).en (M1.up us k).lv = false := hu
        have HQ : Hid (M1.allR us = false) := M1.allR_no (j := k) (by rw [hl1.out]; exact hlt) hu
        clear hall hu
        go_wp2_with fail
        refine (updateOk_impl _ _ _ _ _ _ _ _ _ _ _ _ _ _ hs).mono ?_
        rw [hok]
        rintro e w1 ⟨rfl, hb1⟩
        have hB1 : Below w.heap.size w w1 := (hB.alloc hB.size _).trans (hb1.mono (by have := hB.size; simp; omega))
        go_wp2_with fail
        go_ret
        exact ⟨by rw [HQ.out]; rfl, hB1⟩
    · have HQ : Hid (M1.allR us = true) := M1.allR_yes fun j hj => hall.out j (by have := hl1.out; omega)
      clear hall
      go_wp2_with fail
      go_ret
      exact ⟨by rw [HQ.out]; rfl, hB⟩

end Go.Proofs.YtccendmoeelniaaGreatDoor

namespace Go.Proofs.YtccendmoeelniaaGreatDoor
open Go.ChangeShapes Go.WideShapes Go.ChangeAt Go.RowKit
set_option linter.unusedSimpArgs false
set_option linter.unusedVariables false
set_option maxHeartbeats 8000000 in
set_option maxRecDepth 100000 in
theorem taken_no (av bv : Option Addr) (n cn m cm : Nat) (xs ys : List M1.Upd) (w : World) (h1 : IsUpds w av n cn xs) (h2 : IsUpds w bv m cm ys) (hp : M1.tpre xs ys = false) :
    Calls Tryz.prog 22 #[.slice av n cn, .slice bv m cm] w fun e w' => Jd w w' e [] false ∧ Below w.heap.size w w' := by
  have hl2 : Hid (ys.length = m) := h2.hlen
  have hm3 := h2.hcap
  have hm4 := h2.hmost
  unfold maxLen at hm4
  by_cases hs1 : M1.setOk xs = true
  · by_cases hm60 : m ≤ 60
    · have hgt : decide ((60 : Int) < (m : Int)) = false := decide_eq_false (by omega)
      have hgt2 : decide (60 < m) = false := decide_eq_false (by omega)
      have hs3 : M1.allR ys = false := by
        have : ys.length ≤ 60 := by have := hl2.out; omega
        simpa [M1.tpre, hs1, this] using hp
      go_enter Tryz.func22, Tryz.ntmps22
      go_wp2_with fail
      refine (setOk_impl _ _ _ _ _ h1).mono ?_
      rw [hs1]
      rintro e w1 ⟨rfl, hb1⟩
      go_wp2_with fail
      refine (allRight_any _ _ _ _ _ (h2.below hb1)).mono ?_
      rw [hs3]
      rintro e w2 ⟨rfl, hb2⟩
      have B2 := hb1.trans (hb2.mono hb1.size)
      go_wp2_with fail
      exact bodyPost_ret (v := .tuple #[.slice none 0 0, .bool false]) (by simp [results, Tryz.results22, go_sem]) rfl ⟨jd_nil _ _, B2⟩
    · have hgt : decide ((60 : Int) < (m : Int)) = true := decide_eq_true (by omega)
      have hgt2 : decide (60 < m) = true := decide_eq_true (by omega)
      go_enter Tryz.func22, Tryz.ntmps22
      go_wp2_with fail
      refine (setOk_impl _ _ _ _ _ h1).mono ?_
      rw [hs1]
      rintro e w1 ⟨rfl, hb1⟩
      go_wp2_with fail
      exact bodyPost_ret (v := .tuple #[.slice none 0 0, .bool false]) (by simp [results, Tryz.results22, go_sem]) rfl ⟨jd_nil _ _, hb1⟩
  · replace hs1 : M1.setOk xs = false := by simpa using hs1
    go_enter Tryz.func22, Tryz.ntmps22
    go_wp2_with fail
    refine (setOk_impl _ _ _ _ _ h1).mono ?_
    rw [hs1]
    rintro e w1 ⟨rfl, hb1⟩
    go_wp2_with fail
    exact bodyPost_ret (v := .tuple #[.slice none 0 0, .bool false]) (by simp [results, Tryz.results22, go_sem]) rfl ⟨jd_nil _ _, hb1⟩

end Go.Proofs.YtccendmoeelniaaGreatDoor
