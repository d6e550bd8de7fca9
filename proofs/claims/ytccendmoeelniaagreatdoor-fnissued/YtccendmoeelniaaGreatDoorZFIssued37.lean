/-
  Texts of one proof, joined: AppU, GenV.
-/
import Derived.Test.YtccendmoeelniaaGreatDoorZFIssued10
import Derived.Test.YtccendmoeelniaaGreatDoorZFIssued22
import Derived.Test.YtccendmoeelniaaGreatDoorZFIssued21
import Derived.Test.YtccendmoeelniaaGreatDoorZFIssued11
namespace Go.Proofs.YtccendmoeelniaaGreatDoor
open Go.ChangeShapes Go.WideShapes Go.ChangeAt Go.RowKit
set_option linter.unusedSimpArgs false
set_option linter.unusedVariables false
theorem wpList_appU {w : World} {ops : Array Oper} {rest : List Oper} {o : Oper} {a : Act} {Q : Exit → Act → World → Prop} (hw : Region.wanted o (yielded ops a.tmps) = true) (s x : Operand)
  (ho : o.op = .call { callee := .builtin .append, args := #[s, x], argTypes := #[26, 26] })
  (base : Nat) (xv : Option Addr) (xc n : Nat) (ns : List M1.Upd) (hn : ns.length = n) (hs : a.eval s = .slice xv n xc) (hown : w.ownsRow base 38 13 (.slice xv n xc) n (ucL ns))
  (yv : Option Addr) (m yc : Nat) (ys : List M1.Upd) (hx : a.eval x = .slice yv m yc) (hy : IsUpds w yv m yc ys) (hlen : n + m ≤ 1000000) (hbase : base ≤ w.heap.size)
  (h : ∀ av cap w', w'.ownsRow base 38 13 (.slice av (n + m) cap) (n + m) (ucL (ns ++ ys)) → Below base w w' → wpList Tryz.prog ops Q rest (a.put o.dst (.slice av (n + m) cap)) w') : wpList Tryz.prog ops Q (o :: rest) a w := by
 obtain ⟨ti, hi1, hi2, hi3, hi4⟩ := infoUpd
 refine wpList_step fun K hK => ?_
 rw [if_pos hw]
 by_cases hm0 : m = 0
 ·subst hm0
  have hys : ys = [] := List.eq_nil_of_length_eq_zero hy.hlen
  subst hys
  have hrun := run_append_zero (P := Tryz.prog) (w := w) base 26 o.type 38 ti 13 Tryz.underlying26 hi1 (.slice xv n xc) n (ucL ns) hown yv yc
  unfold Oper.wp
  simp [execOp, ho, resolve, invoke, builtin, hs, hx, hrun, Result.andThen]
  refine hK _ _ (h xv xc w ?_ (Below.refl _ _))
  simpa using hown
 ·rcases hy.hlies with h0 | ⟨b, off, rfl, hb, hc⟩
  ·exact absurd h0 hm0
  have hnews : ∀ j u, (ucL ys)[j]? = some u → w.cell? ((⟨b, off, none⟩ : Addr).add j) = some u := by
   have := ucL_take_cells (w := w) (b := b) (off := off) (n := m) (us := ys) hc hy.hlen 0 m (by omega)
   have e : (ys.drop 0).take m = ys := by rw [List.drop_zero, ← hy.hlen, List.take_length]
   rw [e] at this
   simpa using this
  refine wp_append_lies w s x 26 ho base 38 ti _ 13 112 Tryz.underlying26 hi1 hi2 hi3 hi4 rfl (by omega) (.slice xv n xc) n (ucL ns) hs hown ⟨b, off, none⟩ m yc (ucL ys) hx (by rw [ucL_len, hy.hlen]) hnews (ucL_one ys) (by omega) (by unfold maxLen; omega) (by omega) hbase _ rfl ?_
  intro g cap w' hown' hgrow hat hlt
  refine hK _ _ (h _ _ _ ?_ ?_)
  ·rw [ucL_app]; exact hown'
  ·exact (Below.refl base w).grown hgrow hbase (owns_base hown)

end Go.Proofs.YtccendmoeelniaaGreatDoor

namespace Go.Proofs.YtccendmoeelniaaGreatDoor
open Go.ChangeShapes Go.WideShapes Go.ChangeAt Go.RowKit
set_option linter.unusedSimpArgs false
set_option maxHeartbeats 8000000 in
set_option maxRecDepth 100000 in
theorem l3Vector_gen (av : Option Addr) (n cn : Nat) (us : List M1.Upd) (w : World) (h1 : IsUpds w av n cn us) (hn : n ≤ 1048576) :
  Calls Tryz.prog 59 #[.slice av n cn] w fun e w' => Joined w w' e (M1.l3v us) ∧ Below w.heap.size w w' := by
 have hl1 : Hid (us.length = n) := h1.hlen
 have hm1 := h1.hcap
 have hm2 := h1.hmost
 unfold maxLen at hm2
 obtain ⟨ti, hi1, hi2, hi3, hi4⟩ := infoDot
 have hi4' : Hid (ti.bytes = 16) := hi4
 have hi2' : Hid (ti.zero = some (.agg #[.int .i64 0, .int .i64 0])) := hi2
 have hi3' : Hid (ti.size = 2) := hi3
 have hi1' : Hid (Tryz.prog.info? 36 = some ti) := hi1
 clear hi1 hi2 hi3 hi4
 go_enter Tryz.func59, Tryz.ntmps59
 go_wp2_with fail
 have hA : Below w.heap.size w (w.alloc (.cells #[] 36)) := (Below.refl _ _).alloc (Nat.le_refl _) _
 have own0 := owns_empty w 36
 go_loopw [3, 4] (fun v i wr => ∃ (k : Nat) (ds : List (Int × Int)), k ≤ n ∧ i = .int .i64 k ∧ Hid (M1.l3To us k = ds) ∧ ds.length ≤ k ∧ wr.ownsRow w.heap.size 36 2 v ds.length (dcs ds) ∧ Below w.heap.size w wr) (fun _ i _ => n - (intOf i).toNat)
 case atStart => exact ⟨0, [], Nat.zero_le _, rfl, (rfl : M1.l3To us 0 = []), Nat.le_refl _, own0, hA⟩
 case round =>
  clear own0 hA
  obtain ⟨k, ds, hk, rfl, hds, hdl, hown, hB⟩ := hrel
  by_cases hlt : k < n
  ·have g1 := h1.below hB
   rcases g1.hlies with h0 | ⟨b, off, rfl, hb, hc⟩
   ·omega
   obtain ⟨c0, c1, c2, c3, c4, c5, c6, c7, c8, c9, c10, c11, c12⟩ := hc k hlt
   have i0 : (0 : Int) ≤ (k : Int) := by omega
   have i1 : (k : Int) < (n : Int) := by omega
   have i5 : IntKind.i64.wrap ((k : Int) + 1) = (k : Int) + 1 := IntWalk.i64_in _ (by omega)
   have hsz := hB.size
   by_cases hq : k + 1 = us.length ∨ ¬ (M1.up us (k + 1)).dr = (M1.up us k).dr
   ·have HE : Hid (M1.l3To us (k + 1) = ds ++ [((M1.up us k).dr, (M1.up us k).dn)]) := (by
     rw [M1.l3To_yes hq, hds.out] : M1.l3To us (k + 1) = ds ++ [((M1.up us k).dr, (M1.up us k).dn)])
    by_cases hq1 : k + 1 = n
    ·have e1 : (((k : Int) + 1) == (n : Int)) = true := by simp; omega
     clear hq hc g1
     go_wp2_with fail
     refine wp_region_held_drew (S := fun w' => Kp wr w') (by kernel_rfl) ?_ (fun hHeld => ?_)
     ·exact kp_zero _
     refine tZ (i:=0) (v:=?_) rfl (.inl ⟨by rfl, ?_⟩) hHeld ?_
     rotate_left
     ·(intro w hSw; (try dsimp only at hSw); go_simp; try (with_reducible rfl))
     (try simp only [Act.put, zZ])
     refine tZ (i:=1) (v:=?_) rfl (.inl ⟨by rfl, ?_⟩) hHeld ?_
     rotate_left
     ·(intro w hSw; (try dsimp only at hSw); go_simp; try (with_reducible rfl))
     (try simp only [Act.put, zZ])
     refine tZ (i:=2) (v:=?_) rfl (.inl ⟨by rfl, ?_⟩) hHeld ?_
     rotate_left
     ·(intro w hSw; (try dsimp only at hSw); go_simp; try (with_reducible rfl))
     (try simp only [Act.put, zZ])
     refine tZ (i:=3) (v:=?_) rfl (.inl ⟨by rfl, ?_⟩) hHeld ?_
     rotate_left
     ·(intro w hSw; (try dsimp only at hSw); go_simp; try (with_reducible rfl))
     (try simp only [Act.put, zZ])
     refine tZ (i:=4) (v:=?_) rfl (.inl ⟨by rfl, ?_⟩) hHeld ?_
     rotate_left
     ·(intro w hSw; (try dsimp only at hSw); go_simp; try (with_reducible rfl))
     (try simp only [Act.put, zZ])
     refine tZ (i:=5) (v:=?_) rfl (.inl ⟨by rfl, ?_⟩) hHeld ?_
     rotate_left
     ·(intro w hSw; (try dsimp only at hSw); go_simp; try (with_reducible rfl))
     (try simp only [Act.put, zZ])
     refine tZ (i:=6) (v:=undef) rfl (.inr ⟨by rfl, rfl⟩) hHeld ?_
     (try simp only [Act.put, zZ])
     refine tZ (i:=7) (v:=undef) rfl (.inr ⟨by rfl, rfl⟩) hHeld ?_
     (try simp only [Act.put, zZ])
     refine tZ (i:=8) (v:=undef) rfl (.inr ⟨by rfl, rfl⟩) hHeld ?_
     (try simp only [Act.put, zZ])
     refine tZ (i:=9) (v:=undef) rfl (.inr ⟨by rfl, rfl⟩) hHeld ?_
     (try simp only [Act.put, zZ])
     refine tZ (i:=10) (v:=undef) rfl (.inr ⟨by rfl, rfl⟩) hHeld ?_
     (try simp only [Act.put, zZ])
     refine tZ (i:=11) (v:=undef) rfl (.inr ⟨by rfl, rfl⟩) hHeld ?_
     (try simp only [Act.put, zZ])
     refine tZ (i:=12) (v:=undef) rfl (.inr ⟨by rfl, rfl⟩) hHeld ?_
     (try simp only [Act.put, zZ])
     refine tZ (i:=13) (v:=undef) rfl (.inr ⟨by rfl, rfl⟩) hHeld ?_
     (try simp only [Act.put, zZ])
     refine tZ (i:=14) (v:=undef) rfl (.inr ⟨by rfl, rfl⟩) hHeld ?_
     (try simp only [Act.put, zZ])
     refine tZ (i:=15) (v:=undef) rfl (.inr ⟨by rfl, rfl⟩) hHeld ?_
     (try simp only [Act.put, zZ])
     refine tZ (i:=16) (v:=undef) rfl (.inr ⟨by rfl, rfl⟩) hHeld ?_
     (try simp only [Act.put, zZ])
     refine tZ (i:=17) (v:=undef) rfl (.inr ⟨by rfl, rfl⟩) hHeld ?_
     (try simp only [Act.put, zZ])
     refine tZ (i:=18) (v:=undef) rfl (.inr ⟨by rfl, rfl⟩) hHeld ?_
     (try simp only [Act.put, zZ])
     refine tZ (i:=19) (v:=undef) rfl (.inr ⟨by rfl, rfl⟩) hHeld ?_
     (try simp only [Act.put, zZ])
     refine tZ (i:=20) (v:=?_) rfl (.inl ⟨by rfl, ?_⟩) hHeld ?_
     rotate_left
     ·(intro w hSw; (try dsimp only at hSw); go_simp; try (with_reducible rfl))
     (try simp only [Act.put, zZ])
     refine wpAnyH_done (by kernel_rfl) ?_ _
     have hK1 := hHeld
     clear hHeld
     generalize wr.drew = W1 at hK1 ⊢
     have hB1 := hB.trans (hK1.1.mono hB.size)
     have hown1 := owns_below hown hK1.1
     have hK2 := hK1.2
     have hsz1 := hB1.size
     clear hK1
     go_wp2_with (at_builtin; refine wpList_append_lies _ rfl _ _ _ rfl w.heap.size 36 ti _ 2 16 Tryz.underlying46 hi1'.out hi2'.out hi3'.out hi4'.out rfl (by omega) u3 ds.length (dcs ds) rfl (owns_below hown1 ((Below.refl _ _).alloc (Nat.le_refl _) _)) ⟨W1.heap.size, 0, none⟩ 1 1 [.int .i64 (M1.up us k).dr, .int .i64 (M1.up us k).dn] rfl rfl (news2 _ _ _ _) (one2 _ _) (by omega) (by unfold maxLen; omega) (by omega) (by simp; omega) _ rfl ?_; intro g4 cap4 w4 hown4 hgrow4 hat4 hlt4)
     have hB4 : Below w.heap.size w w4 := (hB1.alloc hB1.size _).grown hgrow4 (by simp; omega) (owns_base hown1)
     exact ⟨⟨k + 1, _, by omega, by go_num, HE, by simp; omega, owns_snoc hown4, hB4⟩, by simp [intOf]; omega⟩
    ·have e1 : (((k : Int) + 1) == (n : Int)) = false := by simp; omega
     obtain ⟨p0, p1, p2, p3, p4, p5, p6, p7, p8, p9, p10, p11, p12⟩ := hc (k + 1) (by omega)
     have i2 : (0 : Int) ≤ (k : Int) + 1 := by omega
     have i3 : (k : Int) + 1 < (n : Int) := by omega
     have e2 : ((M1.up us (k + 1)).dr != (M1.up us k).dr) = true := by simp; exact hq.elim (fun h => absurd (h.trans hl1.out) hq1) id
     clear hq hc g1
     go_wp2_with fail
     refine wp_region_held_drew (S := fun w' => Kp wr w') (by kernel_rfl) ?_ (fun hHeld => ?_)
     ·exact kp_zero _
     refine tZ (i:=0) (v:=?_) rfl (.inl ⟨by rfl, ?_⟩) hHeld ?_
     rotate_left
     ·(intro w hSw; (try dsimp only at hSw); go_simp; try (with_reducible rfl))
     (try simp only [Act.put, zZ])
     refine tZ (i:=1) (v:=?_) rfl (.inl ⟨by rfl, ?_⟩) hHeld ?_
     rotate_left
     ·(intro w hSw; (try dsimp only at hSw); go_simp; try (with_reducible rfl))
     (try simp only [Act.put, zZ])
     refine tZ (i:=2) (v:=?_) rfl (.inl ⟨by rfl, ?_⟩) hHeld ?_
     rotate_left
     ·(intro w hSw; (try dsimp only at hSw); go_simp; try (with_reducible rfl))
     (try simp only [Act.put, zZ])
     refine tZ (i:=3) (v:=?_) rfl (.inl ⟨by rfl, ?_⟩) hHeld ?_
     rotate_left
     ·(intro w hSw; (try dsimp only at hSw); go_simp; try (with_reducible rfl))
     (try simp only [Act.put, zZ])
     refine tZ (i:=4) (v:=?_) rfl (.inl ⟨by rfl, ?_⟩) hHeld ?_
     rotate_left
     ·(intro w hSw; (try dsimp only at hSw); go_simp; try (with_reducible rfl))
     (try simp only [Act.put, zZ])
     refine tZ (i:=5) (v:=?_) rfl (.inl ⟨by rfl, ?_⟩) hHeld ?_
     rotate_left
     ·(intro w hSw; (try dsimp only at hSw); go_simp; try (with_reducible rfl))
     (try simp only [Act.put, zZ])
     refine tZ (i:=6) (v:=?_) rfl (.inl ⟨by rfl, ?_⟩) hHeld ?_
     rotate_left
     ·(intro w hSw; (try dsimp only at hSw); go_simp; try (with_reducible rfl))
     (try simp only [Act.put, zZ])
     refine tZ (i:=7) (v:=?_) rfl (.inl ⟨by rfl, ?_⟩) hHeld ?_
     rotate_left
     ·(intro w hSw; (try dsimp only at hSw); go_simp; try (with_reducible rfl))
     (try simp only [Act.put, zZ])
     refine tZ (i:=8) (v:=?_) rfl (.inl ⟨by rfl, ?_⟩) hHeld ?_
     rotate_left
     ·(intro w hSw; (try dsimp only at hSw); go_simp; try (with_reducible rfl))
     (try simp only [Act.put, zZ])
     refine tZ (i:=9) (v:=?_) rfl (.inl ⟨by rfl, ?_⟩) hHeld ?_
     rotate_left
     ·(intro w hSw; (try dsimp only at hSw); go_simp; try (with_reducible rfl))
     (try simp only [Act.put, zZ])
     refine tZ (i:=10) (v:=?_) rfl (.inl ⟨by rfl, ?_⟩) hHeld ?_
     rotate_left
     ·(intro w hSw; (try dsimp only at hSw); go_simp; try (with_reducible rfl))
     (try simp only [Act.put, zZ])
     refine tZ (i:=11) (v:=?_) rfl (.inl ⟨by rfl, ?_⟩) hHeld ?_
     rotate_left
     ·(intro w hSw; (try dsimp only at hSw); go_simp; try (with_reducible rfl))
     (try simp only [Act.put, zZ])
     refine tZ (i:=12) (v:=?_) rfl (.inl ⟨by rfl, ?_⟩) hHeld ?_
     rotate_left
     ·(intro w hSw; (try dsimp only at hSw); go_simp; try (with_reducible rfl))
     (try simp only [Act.put, zZ])
     refine tZ (i:=13) (v:=?_) rfl (.inl ⟨by rfl, ?_⟩) hHeld ?_
     rotate_left
     ·(intro w hSw; (try dsimp only at hSw); go_simp; try (with_reducible rfl))
     (try simp only [Act.put, zZ])
     refine tZ (i:=14) (v:=?_) rfl (.inl ⟨by rfl, ?_⟩) hHeld ?_
     rotate_left
     ·(intro w hSw; (try dsimp only at hSw); go_simp; try (with_reducible rfl))
     (try simp only [Act.put, zZ])
     refine tZ (i:=15) (v:=?_) rfl (.inl ⟨by rfl, ?_⟩) hHeld ?_
     rotate_left
     ·(intro w hSw; (try dsimp only at hSw); go_simp; try (with_reducible rfl))
     (try simp only [Act.put, zZ])
     refine tZ (i:=16) (v:=?_) rfl (.inl ⟨by rfl, ?_⟩) hHeld ?_
     rotate_left
     ·(intro w hSw; (try dsimp only at hSw); go_simp; try (with_reducible rfl))
     (try simp only [Act.put, zZ])
     refine tZ (i:=17) (v:=?_) rfl (.inl ⟨by rfl, ?_⟩) hHeld ?_
     rotate_left
     ·(intro w hSw; (try dsimp only at hSw); go_simp; try (with_reducible rfl))
     (try simp only [Act.put, zZ])
     refine tZ (i:=18) (v:=?_) rfl (.inl ⟨by rfl, ?_⟩) hHeld ?_
     rotate_left
     ·(intro w hSw; (try dsimp only at hSw); go_simp; try (with_reducible rfl))
     (try simp only [Act.put, zZ])
     refine tZ (i:=19) (v:=?_) rfl (.inl ⟨by rfl, ?_⟩) hHeld ?_
     rotate_left
     ·(intro w hSw; (try dsimp only at hSw); go_simp; try (with_reducible rfl))
     (try simp only [Act.put, zZ])
     refine tZ (i:=20) (v:=?_) rfl (.inl ⟨by rfl, ?_⟩) hHeld ?_
     rotate_left
     ·(intro w hSw; (try dsimp only at hSw); go_simp; try (with_reducible rfl))
     (try simp only [Act.put, zZ])
     refine wpAnyH_done (by kernel_rfl) ?_ _
     have hK1 := hHeld
     clear hHeld
     generalize wr.drew = W1 at hK1 ⊢
     have hB1 := hB.trans (hK1.1.mono hB.size)
     have hown1 := owns_below hown hK1.1
     have hK2 := hK1.2
     have hsz1 := hB1.size
     clear hK1
     go_wp2_with (at_builtin; refine wpList_append_lies _ rfl _ _ _ rfl w.heap.size 36 ti _ 2 16 Tryz.underlying46 hi1'.out hi2'.out hi3'.out hi4'.out rfl (by omega) u3 ds.length (dcs ds) rfl (owns_below hown1 ((Below.refl _ _).alloc (Nat.le_refl _) _)) ⟨W1.heap.size, 0, none⟩ 1 1 [.int .i64 (M1.up us k).dr, .int .i64 (M1.up us k).dn] rfl rfl (news2 _ _ _ _) (one2 _ _) (by omega) (by unfold maxLen; omega) (by omega) (by simp; omega) _ rfl ?_; intro g4 cap4 w4 hown4 hgrow4 hat4 hlt4)
     have hB4 : Below w.heap.size w w4 := (hB1.alloc hB1.size _).grown hgrow4 (by simp; omega) (owns_base hown1)
     exact ⟨⟨k + 1, _, by omega, by go_num, HE, by simp; omega, owns_snoc hown4, hB4⟩, by simp [intOf]; omega⟩
   ·have HE : Hid (M1.l3To us (k + 1) = ds) := (by
     rw [M1.l3To_no hq, hds.out] : M1.l3To us (k + 1) = ds)
    have hq1 : ¬ k + 1 = n := fun e => hq (Or.inl (e.trans hl1.out.symm))
    have e1 : (((k : Int) + 1) == (n : Int)) = false := by simp; omega
    obtain ⟨p0, p1, p2, p3, p4, p5, p6, p7, p8, p9, p10, p11, p12⟩ := hc (k + 1) (by omega)
    have i2 : (0 : Int) ≤ (k : Int) + 1 := by omega
    have i3 : (k : Int) + 1 < (n : Int) := by omega
    have e2 : ((M1.up us (k + 1)).dr != (M1.up us k).dr) = false := by
     have : (M1.up us (k + 1)).dr = (M1.up us k).dr := Classical.not_not.1 (fun h => hq (Or.inr h))
     simp [this]
    clear hq hc g1
    go_wp2_with fail
    refine wp_region_held_drew (S := fun w' => Kp wr w') (by kernel_rfl) ?_ (fun hHeld => ?_)
    ·exact kp_zero _
    refine tZ (i:=0) (v:=?_) rfl (.inl ⟨by rfl, ?_⟩) hHeld ?_
    rotate_left
    ·(intro w hSw; (try dsimp only at hSw); go_simp; try (with_reducible rfl))
    (try simp only [Act.put, zZ])
    refine tZ (i:=1) (v:=?_) rfl (.inl ⟨by rfl, ?_⟩) hHeld ?_
    rotate_left
    ·(intro w hSw; (try dsimp only at hSw); go_simp; try (with_reducible rfl))
    (try simp only [Act.put, zZ])
    refine tZ (i:=2) (v:=?_) rfl (.inl ⟨by rfl, ?_⟩) hHeld ?_
    rotate_left
    ·(intro w hSw; (try dsimp only at hSw); go_simp; try (with_reducible rfl))
    (try simp only [Act.put, zZ])
    refine tZ (i:=3) (v:=?_) rfl (.inl ⟨by rfl, ?_⟩) hHeld ?_
    rotate_left
    ·(intro w hSw; (try dsimp only at hSw); go_simp; try (with_reducible rfl))
    (try simp only [Act.put, zZ])
    refine tZ (i:=4) (v:=?_) rfl (.inl ⟨by rfl, ?_⟩) hHeld ?_
    rotate_left
    ·(intro w hSw; (try dsimp only at hSw); go_simp; try (with_reducible rfl))
    (try simp only [Act.put, zZ])
    refine tZ (i:=5) (v:=?_) rfl (.inl ⟨by rfl, ?_⟩) hHeld ?_
    rotate_left
    ·(intro w hSw; (try dsimp only at hSw); go_simp; try (with_reducible rfl))
    (try simp only [Act.put, zZ])
    refine tZ (i:=6) (v:=?_) rfl (.inl ⟨by rfl, ?_⟩) hHeld ?_
    rotate_left
    ·(intro w hSw; (try dsimp only at hSw); go_simp; try (with_reducible rfl))
    (try simp only [Act.put, zZ])
    refine tZ (i:=7) (v:=?_) rfl (.inl ⟨by rfl, ?_⟩) hHeld ?_
    rotate_left
    ·(intro w hSw; (try dsimp only at hSw); go_simp; try (with_reducible rfl))
    (try simp only [Act.put, zZ])
    refine tZ (i:=8) (v:=?_) rfl (.inl ⟨by rfl, ?_⟩) hHeld ?_
    rotate_left
    ·(intro w hSw; (try dsimp only at hSw); go_simp; try (with_reducible rfl))
    (try simp only [Act.put, zZ])
    refine tZ (i:=9) (v:=?_) rfl (.inl ⟨by rfl, ?_⟩) hHeld ?_
    rotate_left
    ·(intro w hSw; (try dsimp only at hSw); go_simp; try (with_reducible rfl))
    (try simp only [Act.put, zZ])
    refine tZ (i:=10) (v:=?_) rfl (.inl ⟨by rfl, ?_⟩) hHeld ?_
    rotate_left
    ·(intro w hSw; (try dsimp only at hSw); go_simp; try (with_reducible rfl))
    (try simp only [Act.put, zZ])
    refine tZ (i:=11) (v:=?_) rfl (.inl ⟨by rfl, ?_⟩) hHeld ?_
    rotate_left
    ·(intro w hSw; (try dsimp only at hSw); go_simp; try (with_reducible rfl))
    (try simp only [Act.put, zZ])
    refine tZ (i:=12) (v:=?_) rfl (.inl ⟨by rfl, ?_⟩) hHeld ?_
    rotate_left
    ·(intro w hSw; (try dsimp only at hSw); go_simp; try (with_reducible rfl))
    (try simp only [Act.put, zZ])
    refine tZ (i:=13) (v:=?_) rfl (.inl ⟨by rfl, ?_⟩) hHeld ?_
    rotate_left
    ·(intro w hSw; (try dsimp only at hSw); go_simp; try (with_reducible rfl))
    (try simp only [Act.put, zZ])
    refine tZ (i:=14) (v:=?_) rfl (.inl ⟨by rfl, ?_⟩) hHeld ?_
    rotate_left
    ·(intro w hSw; (try dsimp only at hSw); go_simp; try (with_reducible rfl))
    (try simp only [Act.put, zZ])
    refine tZ (i:=15) (v:=?_) rfl (.inl ⟨by rfl, ?_⟩) hHeld ?_
    rotate_left
    ·(intro w hSw; (try dsimp only at hSw); go_simp; try (with_reducible rfl))
    (try simp only [Act.put, zZ])
    refine tZ (i:=16) (v:=?_) rfl (.inl ⟨by rfl, ?_⟩) hHeld ?_
    rotate_left
    ·(intro w hSw; (try dsimp only at hSw); go_simp; try (with_reducible rfl))
    (try simp only [Act.put, zZ])
    refine tZ (i:=17) (v:=?_) rfl (.inl ⟨by rfl, ?_⟩) hHeld ?_
    rotate_left
    ·(intro w hSw; (try dsimp only at hSw); go_simp; try (with_reducible rfl))
    (try simp only [Act.put, zZ])
    refine tZ (i:=18) (v:=?_) rfl (.inl ⟨by rfl, ?_⟩) hHeld ?_
    rotate_left
    ·(intro w hSw; (try dsimp only at hSw); go_simp; try (with_reducible rfl))
    (try simp only [Act.put, zZ])
    refine tZ (i:=19) (v:=?_) rfl (.inl ⟨by rfl, ?_⟩) hHeld ?_
    rotate_left
    ·(intro w hSw; (try dsimp only at hSw); go_simp; try (with_reducible rfl))
    (try simp only [Act.put, zZ])
    refine tZ (i:=20) (v:=?_) rfl (.inl ⟨by rfl, ?_⟩) hHeld ?_
    rotate_left
    ·(intro w hSw; (try dsimp only at hSw); go_simp; try (with_reducible rfl))
    (try simp only [Act.put, zZ])
    refine wpAnyH_done (by kernel_rfl) ?_ _
    have hK1 := hHeld
    clear hHeld
    have hB1 := hB.trans (hK1.1.mono hB.size)
    have hown1 := owns_below hown hK1.1
    clear hK1
    go_wp2_with fail
    exact ⟨⟨k + 1, ds, by omega, by go_num, HE, by omega, hown1, hB1⟩, by simp [intOf]; omega⟩
  ·have HE : Hid (M1.l3v us = ds) := (by
    have hkn : k = us.length := by have := hl1.out; omega
    unfold M1.l3v; rw [← hkn]; exact hds.out : M1.l3v us = ds)
   go_wp2_with fail
   go_ret
   exact ⟨⟨_, rfl, by rw [HE.out]; exact hown⟩, hB⟩

set_option maxHeartbeats 1000000 in
theorem l1Of_gen (av : Option Addr) (n cn : Nat) (ds : List (Int × Int)) (r : Int) (w : World) (h1 : IsVec w av n cn ds) :
  Calls Tryz.prog 96 #[.slice av n cn, .int .i64 r] w fun e w' => e = .returned (.int .i64 (M1.fm ds r)) ∧ w' = w := by
 have hl1 : Hid (ds.length = n) := h1.hlen
 have hm1 := h1.hcap
 have hm2 := h1.hmost
 unfold maxLen at hm2
 go_enter Tryz.func96, Tryz.ntmps96
 go_wp2
 go_loop [5] (fun i => ∃ k : Nat, k ≤ n ∧ i = .int .i64 k ∧ Hid (∀ j, j < k → ¬ M1.rg ds j = r)) (fun i => n - (intOf i).toNat)
 case atStart => exact ⟨0, Nat.zero_le _, rfl, fun j hj => absurd hj (Nat.not_lt_zero _)⟩
 case round =>
  obtain ⟨k, hk, rfl, hall⟩ := hrel
  by_cases hlt : k < n
  ·rcases h1.hlies with h0 | ⟨b, off, rfl, hb, hc⟩
   ·omega
   obtain ⟨c1, c2⟩ := hc k hlt
   clear hc
   have i0 : (0 : Int) ≤ (k : Int) := by omega
   have i1 : (k : Int) < (n : Int) := by omega
   by_cases hq : M1.rg ds k = r
   ·have HQ : Hid (M1.fm ds r = M1.nm ds k) := M1.fm_at (by have := hl1.out; omega) hq hall.out
    have hq1 : (M1.rg ds k == r) = true := by simp [hq]
    clear hq hall
    go_wp2
    go_ret
    exact ⟨by rw [HQ.out]; rfl, rfl⟩
   ·have HQ : Hid (∀ j, j < k + 1 → ¬ M1.rg ds j = r) := fun j hj => by
     by_cases e : j = k
     ·rw [e]; exact hq
     ·exact hall.out j (by omega)
    have hq1 : (M1.rg ds k == r) = false := by simp [hq]
    clear hq hall
    go_wp2
    go_round
    case rel => exact ⟨k + 1, by omega, by go_num, HQ⟩
    case measure => simp [intOf]; omega
  ·have HQ : Hid (M1.fm ds r = 0) := M1.fm_none fun j hj => hall.out j (by have := hl1.out; omega)
   clear hall
   go_wp2
   go_ret
   exact ⟨by rw [HQ.out]; rfl, rfl⟩

end Go.Proofs.YtccendmoeelniaaGreatDoor
