/-
  Texts of one proof, joined: Is2, Wc1.
-/
import Derived.Test.YtccendmoeelniaaGreatDoorZIssued41
import Derived.Test.YtccendmoeelniaaGreatDoorZIssued26
import Derived.Test.YtccendmoeelniaaGreatDoorZIssued40
import Derived.Test.YtccendmoeelniaaGreatDoorZIssued14
namespace M1
theorem lets_3 {us : List Upd} {o : OpV} (h : setOk us = true) (hk : o.k = 3) : letsB us o = visB us o.t := by
  unfold letsB visB lvT; rw [if_pos hk, h, Bool.true_and]

theorem lets_4 {us : List Upd} {o : OpV} (h : setOk us = true) (hk : o.k = 4) : letsB us o = !visB us o.t := by
  unfold letsB visB lvT; rw [if_neg (by omega), if_pos hk, h, Bool.true_and]

theorem lets_0 {us : List Upd} {o : OpV} (hk : ¬ o.k = 3) (hk2 : ¬ o.k = 4) : letsB us o = true := by
  unfold letsB; rw [if_neg hk, if_neg hk2]

end M1
namespace Go.Proofs.YtccendmoeelniaaGreatDoor
open Go.ChangeShapes Go.WideShapes Go.ChangeAt Go.RowKit
set_option linter.unusedSimpArgs false
set_option linter.unusedVariables false
abbrev OpAt (w : World) (p : Nat) (x : M1.OpV) : Prop := RowAt w p 7 (fun o => [.int .i64 x.k, .int .i64 x.t, .int .i64 x.id, .int .i64 x.pa, .string x.s, .int .i64 x.st, .int .i64 x.en].getD o undef)

theorem op_new (w : World) (x : M1.OpV) (t : TypeId) : OpAt (w.alloc (.cells #[.int .i64 x.k, .int .i64 x.t, .int .i64 x.id, .int .i64 x.pa, .string x.s, .int .i64 x.st, .int .i64 x.en] t)) w.heap.size x :=
  (RowAt.new w #[.int .i64 x.k, .int .i64 x.t, .int .i64 x.id, .int .i64 x.pa, .string x.s, .int .i64 x.st, .int .i64 x.en] t).same fun o ho => by
    match o, ho with
    | 0, _ => rfl
    | 1, _ => rfl
    | 2, _ => rfl
    | 3, _ => rfl
    | 4, _ => rfl
    | 5, _ => rfl
    | 6, _ => rfl

theorem OpAt.cells {w : World} {p : Nat} {x : M1.OpV} (h : OpAt w p x) : w.cell? ⟨p, 0, none⟩ = some (.int .i64 x.k) ∧ w.cell? ⟨p, 1, none⟩ = some (.int .i64 x.t) ∧ w.cell? ⟨p, 2, none⟩ = some (.int .i64 x.id) ∧ w.cell? ⟨p, 3, none⟩ = some (.int .i64 x.pa) ∧ w.cell? ⟨p, 4, none⟩ = some (.string x.s) ∧ w.cell? ⟨p, 5, none⟩ = some (.int .i64 x.st) ∧ w.cell? ⟨p, 6, none⟩ = some (.int .i64 x.en) := ⟨h.cell (o := 0) (by omega), h.cell (o := 1) (by omega), h.cell (o := 2) (by omega), h.cell (o := 3) (by omega), h.cell (o := 4) (by omega), h.cell (o := 5) (by omega), h.cell (o := 6) (by omega)⟩

set_option maxHeartbeats 4000000 in
set_option maxRecDepth 100000 in
theorem lets_any (p : Nat) (r : M1.Rg) (x : M1.OpV) (av : Option Addr) (n cn : Nat) (w : World) (hP : RgAt w p r.id r.a r.b r.c av n cn) (hU : IsUpds w av n cn r.us) (hset : Hid (M1.setOk r.us = true)) :
    Calls Tryz.prog 86 #[.pointer (some ⟨p, 0, none⟩), .agg #[.int .i64 x.k, .int .i64 x.t, .int .i64 x.id, .int .i64 x.pa, .string x.s, .int .i64 x.st, .int .i64 x.en]] w fun e w' => e = .returned (.bool (M1.letsB r.us x)) ∧ Below w.heap.size w w' := by
  have hA : Below w.heap.size w (w.alloc (.cells #[.int .i64 x.k, .int .i64 x.t, .int .i64 x.id, .int .i64 x.pa, .string x.s, .int .i64 x.st, .int .i64 x.en] 32)) := (Below.refl _ _).alloc (Nat.le_refl _) _
  have oA := op_new w x 32
  go_enter Tryz.func86, Tryz.ntmps86
  go_upto_region 1 with fail
  obtain ⟨W1, hW1⟩ : ∃ W, w.alloc (.cells #[.int .i64 x.k, .int .i64 x.t, .int .i64 x.id, .int .i64 x.pa, .string x.s, .int .i64 x.st, .int .i64 x.en] 32) = W := ⟨_, rfl⟩
  rw [hW1] at hA oA ⊢
  clear hW1
  obtain ⟨b, hb⟩ : ∃ b, Hid (w.heap.size = b) := ⟨_, rfl⟩
  rw [hb.out] at oA ⊢
  have P1 : RgAt W1 p r.id r.a r.b r.c av n cn := hP.below hA
  have U1 := hU.below hA
  obtain ⟨d0, d1, d2, d3, d4⟩ := P1.cells
  have pl := P1.lt
  obtain ⟨c0, c1, c2, c3, c4, c5, c6⟩ := oA.cells
  have ol := oA.lt
  by_cases k3 : x.k = 3
  · have HL : Hid (M1.letsB r.us x = M1.visB r.us x.t) := M1.lets_3 hset.out k3
    rw [k3] at c0
    clear k3
    go_wp2_with fail
    refine wp_region_held_drew (S := fun w' => Kp W1 w') (by kernel_rfl) ?_ (fun hHeld => ?_)
    · exact kp_zero _
    refine wpAnyH_take (i := 0) (v := ?_) rfl (by kernel_rfl) (by kernel_rfl) (by kernel_rfl) (fun _ _ _ h => h) (Or.inl ⟨by rfl, ?_⟩) hHeld ?_
    rotate_left
    · (intro w hSw; (try dsimp only at hSw); go_simp; try (with_reducible rfl))
    (try simp only [Act.put, aZ, bZ, cZ, dZ, eZ, fZ])
    refine wpAnyH_take (i := 1) (v := ?_) rfl (by kernel_rfl) (by kernel_rfl) (by kernel_rfl) (fun _ _ _ h => h) (Or.inl ⟨by rfl, ?_⟩) hHeld ?_
    rotate_left
    · (intro w hSw; (try dsimp only at hSw); go_simp; try (with_reducible rfl))
    (try simp only [Act.put, aZ, bZ, cZ, dZ, eZ, fZ])
    refine wpAnyH_take (i := 2) (v := ?_) rfl (by kernel_rfl) (by kernel_rfl) (by kernel_rfl) (fun _ _ _ h => h) (Or.inl ⟨by rfl, ?_⟩) hHeld ?_
    rotate_left
    · (intro w hSw; (try dsimp only at hSw); go_simp; try (with_reducible rfl))
    (try simp only [Act.put, aZ, bZ, cZ, dZ, eZ, fZ])
    refine wpAnyH_take (i := 3) (v := ?_) rfl (by kernel_rfl) (by kernel_rfl) (by kernel_rfl) (fun _ _ _ h => h) (Or.inl ⟨by rfl, ?_⟩) hHeld ?_
    rotate_left
    · (intro w hSw; (try dsimp only at hSw); go_simp; try (with_reducible rfl))
    (try simp only [Act.put, aZ, bZ, cZ, dZ, eZ, fZ])
    refine wpAnyH_take (i := 4) (v := ?_) rfl (by kernel_rfl) (by kernel_rfl) (by kernel_rfl) (fun _ _ _ h => h) (Or.inl ⟨by rfl, ?_⟩) hHeld ?_
    rotate_left
    · (intro w hSw; (try dsimp only at hSw); go_simp; try (with_reducible rfl))
    (try simp only [Act.put, aZ, bZ, cZ, dZ, eZ, fZ])
    refine wpAnyH_take (i := 5) (v := ?_) rfl (by kernel_rfl) (by kernel_rfl) (by kernel_rfl) (fun _ _ _ h => h) (Or.inl ⟨by rfl, ?_⟩) hHeld ?_
    rotate_left
    · (intro w hSw; (try dsimp only at hSw); go_simp; try (with_reducible rfl))
    (try simp only [Act.put, aZ, bZ, cZ, dZ, eZ, fZ])
    refine wpAnyH_ready (rs := [6]) (by kernel_rfl) (by simp) ?_
    refine AllReadyH.cons (o := _) rfl (fun K hK => ?_) AllReadyH.nil
    go_simp
    (refine (visible_impl _ _ _ r.us x.t _ (hU.below hA.drew)).mono ?_; rintro e w2 ⟨rfl, hb2⟩; go_wp2_with fail)
    refine hK.out _ _ ?_ (fun hHeld2 => ?_)
    · exact kp_of ((Below.refl _ W1).drew.trans hb2)
    clear hK K hHeld
    have hHeld := hHeld2
    clear hHeld2
    (try simp only [Act.put, aZ, bZ, cZ, dZ, eZ, fZ])
    refine wpAnyH_take (i := 7) (v := ?_) rfl (by kernel_rfl) (by kernel_rfl) (by kernel_rfl) (fun _ _ _ h => h) (Or.inl ⟨by rfl, ?_⟩) hHeld ?_
    rotate_left
    · (intro w hSw; (try dsimp only at hSw); go_simp; try (with_reducible rfl))
    (try simp only [Act.put, aZ, bZ, cZ, dZ, eZ, fZ])
    refine wpAnyH_done (by kernel_rfl) ?_ _
    clear hHeld
    go_wp2_with fail
    go_ret
    exact ⟨by rw [HL.out]; rfl, hA.trans (((Below.refl _ W1).drew.trans hb2).mono hA.size)⟩
  · have q3 : (x.k == 3) = false := by simpa using k3
    by_cases k4 : x.k = 4
    · clear k3 q3
      have HL : Hid (M1.letsB r.us x = !M1.visB r.us x.t) := M1.lets_4 hset.out k4
      rw [k4] at c0
      clear k4
      go_wp2_with fail
      refine wp_region_held_drew (S := fun w' => Kp W1 w') (by kernel_rfl) ?_ (fun hHeld => ?_)
      · exact kp_zero _
      refine wpAnyH_take (i := 0) (v := ?_) rfl (by kernel_rfl) (by kernel_rfl) (by kernel_rfl) (fun _ _ _ h => h) (Or.inl ⟨by rfl, ?_⟩) hHeld ?_
      rotate_left
      · (intro w hSw; (try dsimp only at hSw); go_simp; try (with_reducible rfl))
      (try simp only [Act.put, aZ, bZ, cZ, dZ, eZ, fZ])
      refine wpAnyH_take (i := 1) (v := ?_) rfl (by kernel_rfl) (by kernel_rfl) (by kernel_rfl) (fun _ _ _ h => h) (Or.inl ⟨by rfl, ?_⟩) hHeld ?_
      rotate_left
      · (intro w hSw; (try dsimp only at hSw); go_simp; try (with_reducible rfl))
      (try simp only [Act.put, aZ, bZ, cZ, dZ, eZ, fZ])
      refine wpAnyH_take (i := 2) (v := ?_) rfl (by kernel_rfl) (by kernel_rfl) (by kernel_rfl) (fun _ _ _ h => h) (Or.inl ⟨by rfl, ?_⟩) hHeld ?_
      rotate_left
      · (intro w hSw; (try dsimp only at hSw); go_simp; try (with_reducible rfl))
      (try simp only [Act.put, aZ, bZ, cZ, dZ, eZ, fZ])
      refine wpAnyH_take (i := 3) (v := ?_) rfl (by kernel_rfl) (by kernel_rfl) (by kernel_rfl) (fun _ _ _ h => h) (Or.inl ⟨by rfl, ?_⟩) hHeld ?_
      rotate_left
      · (intro w hSw; (try dsimp only at hSw); go_simp; try (with_reducible rfl))
      (try simp only [Act.put, aZ, bZ, cZ, dZ, eZ, fZ])
      refine wpAnyH_take (i := 4) (v := ?_) rfl (by kernel_rfl) (by kernel_rfl) (by kernel_rfl) (fun _ _ _ h => h) (Or.inl ⟨by rfl, ?_⟩) hHeld ?_
      rotate_left
      · (intro w hSw; (try dsimp only at hSw); go_simp; try (with_reducible rfl))
      (try simp only [Act.put, aZ, bZ, cZ, dZ, eZ, fZ])
      refine wpAnyH_take (i := 5) (v := ?_) rfl (by kernel_rfl) (by kernel_rfl) (by kernel_rfl) (fun _ _ _ h => h) (Or.inl ⟨by rfl, ?_⟩) hHeld ?_
      rotate_left
      · (intro w hSw; (try dsimp only at hSw); go_simp; try (with_reducible rfl))
      (try simp only [Act.put, aZ, bZ, cZ, dZ, eZ, fZ])
      refine wpAnyH_ready (rs := [6]) (by kernel_rfl) (by simp) ?_
      refine AllReadyH.cons (o := _) rfl (fun K hK => ?_) AllReadyH.nil
      go_simp
      (refine (visible_impl _ _ _ r.us x.t _ (hU.below hA.drew)).mono ?_; rintro e w2 ⟨rfl, hb2⟩; go_wp2_with fail)
      refine hK.out _ _ ?_ (fun hHeld2 => ?_)
      · exact kp_of ((Below.refl _ W1).drew.trans hb2)
      clear hK K hHeld
      have hHeld := hHeld2
      clear hHeld2
      (try simp only [Act.put, aZ, bZ, cZ, dZ, eZ, fZ])
      refine wpAnyH_take (i := 7) (v := ?_) rfl (by kernel_rfl) (by kernel_rfl) (by kernel_rfl) (fun _ _ _ h => h) (Or.inl ⟨by rfl, ?_⟩) hHeld ?_
      rotate_left
      · (intro w hSw; (try dsimp only at hSw); go_simp; try (with_reducible rfl))
      (try simp only [Act.put, aZ, bZ, cZ, dZ, eZ, fZ])
      refine wpAnyH_take (i := 8) (v := ?_) rfl (by kernel_rfl) (by kernel_rfl) (by kernel_rfl) (fun _ _ _ h => h) (Or.inl ⟨by rfl, ?_⟩) hHeld ?_
      rotate_left
      · (intro w hSw; (try dsimp only at hSw); go_simp; try (with_reducible rfl))
      (try simp only [Act.put, aZ, bZ, cZ, dZ, eZ, fZ])
      refine wpAnyH_done (by kernel_rfl) ?_ _
      clear hHeld
      go_wp2_with fail
      go_ret
      exact ⟨by rw [HL.out]; rfl, hA.trans (((Below.refl _ W1).drew.trans hb2).mono hA.size)⟩
    · have q4 : (x.k == 4) = false := by simpa using k4
      have HL : Hid (M1.letsB r.us x = true) := M1.lets_0 k3 k4
      go_wp2_with fail
      go_ret
      exact ⟨by rw [HL.out]; rfl, hA⟩

end Go.Proofs.YtccendmoeelniaaGreatDoor

namespace Go.Proofs.YtccendmoeelniaaGreatDoor
open Go.ChangeShapes Go.WideShapes Go.ChangeAt Go.RowKit
set_option linter.unusedSimpArgs false
set_option linter.unusedVariables false
theorem ta_span (x : Value) (w : World) : (Instr.typeAssert (.iface 157 x) 178 157 true).run Tryz.prog w = .ok (.tuple #[x, .bool true]) w := by kernel_rfl

theorem ta_life (x : Value) (w : World) : (Instr.typeAssert (.iface 161 x) 178 161 true).run Tryz.prog w = .ok (.tuple #[x, .bool true]) w := by kernel_rfl

theorem ta_keep_span (x : Value) (w : World) : (Instr.typeAssert (.iface 159 x) 178 157 true).run Tryz.prog w = .ok (.tuple #[.agg #[.int .i64 0, .int .i64 0, .string ByteArray.empty, .int .i64 0, .int .i64 0], .bool false]) w := by kernel_rfl

theorem ta_life_span (x : Value) (w : World) : (Instr.typeAssert (.iface 161 x) 178 157 true).run Tryz.prog w = .ok (.tuple #[.agg #[.int .i64 0, .int .i64 0, .string ByteArray.empty, .int .i64 0, .int .i64 0], .bool false]) w := by kernel_rfl

set_option maxHeartbeats 4000000 in
set_option maxRecDepth 100000 in
theorem withChange_keep (a b c d e f g h i j k l : Int) (s : ByteArray) (w : World) :
    Calls Tryz.prog 114 #[.agg #[.int .i64 a, .int .i64 b, .int .i64 c, .int .i64 d, .int .i64 e, .int .i64 f, .int .i64 g, .int .i64 h, .int .i64 i, .string s, .int .i64 j, .int .i64 k, .int .i64 l], .iface 159 (.agg #[])] w fun en w' => en = .returned (.agg #[.int .i64 a, .int .i64 b, .int .i64 c, .int .i64 d, .int .i64 e, .int .i64 2, .int .i64 g, .int .i64 h, .int .i64 i, .string s, .int .i64 j, .int .i64 k, .int .i64 l]) ∧ Below w.heap.size w w' := by
  have t0 : ∀ (x : Value) (w : World), (Instr.typeAssert (.iface 159 x) 178 159 true).run Tryz.prog w = .ok (.tuple #[x, .bool true]) w := fun _ _ => by kernel_rfl
  have t1 := ta_keep_span
  go_enter Tryz.func114, Tryz.ntmps114
  go_wp2_with fail
  refine bodyPost_ret (v := .agg #[.int .i64 a, .int .i64 b, .int .i64 c, .int .i64 d, .int .i64 e, .int .i64 2, .int .i64 g, .int .i64 h, .int .i64 i, .string s, .int .i64 j, .int .i64 k, .int .i64 l]) (by simp [results, Tryz.results114, go_sem]) rfl ⟨rfl, ?_⟩
  repeat (first | (with_reducible exact Below.refl _ _) | ((with_reducible refine Below.setCell ?_ ?_ _); rotate_left; (focus (first | omega | (simp; done) | (simp; omega)))) | ((with_reducible refine Below.alloc ?_ ?_ _); rotate_left; (focus (first | omega | (simp; done) | (simp; omega)))) | (with_reducible refine Below.drew ?_))

set_option maxHeartbeats 4000000 in
set_option maxRecDepth 100000 in
theorem withChange_life (a b c d e f g h i j k l : Int) (s : ByteArray) (lv : Int) (w : World) :
    Calls Tryz.prog 114 #[.agg #[.int .i64 a, .int .i64 b, .int .i64 c, .int .i64 d, .int .i64 e, .int .i64 f, .int .i64 g, .int .i64 h, .int .i64 i, .string s, .int .i64 j, .int .i64 k, .int .i64 l], .iface 161 (.agg #[.int .i64 lv])] w fun en w' => en = .returned (.agg #[.int .i64 a, .int .i64 b, .int .i64 c, .int .i64 d, .int .i64 e, .int .i64 3, .int .i64 g, .int .i64 h, .int .i64 i, .string s, .int .i64 j, .int .i64 k, .int .i64 lv]) ∧ Below w.heap.size w w' := by
  have t0 : ∀ (x : Value) (w : World), (Instr.typeAssert (.iface 161 x) 178 159 true).run Tryz.prog w = .ok (.tuple #[.agg #[], .bool false]) w := fun _ _ => by kernel_rfl
  have t1 := ta_life_span
  have t2 := ta_life
  go_enter Tryz.func114, Tryz.ntmps114
  go_wp2_with fail
  go_region
  all_goals go_wp2_with fail
  all_goals refine bodyPost_ret (v := .agg #[.int .i64 a, .int .i64 b, .int .i64 c, .int .i64 d, .int .i64 e, .int .i64 3, .int .i64 g, .int .i64 h, .int .i64 i, .string s, .int .i64 j, .int .i64 k, .int .i64 lv]) (by simp [results, Tryz.results114, go_sem]) rfl ⟨rfl, ?_⟩
  all_goals (repeat (first | (with_reducible exact Below.refl _ _) | ((with_reducible refine Below.setCell ?_ ?_ _); rotate_left; (focus (first | omega | (simp; done) | (simp; omega)))) | ((with_reducible refine Below.alloc ?_ ?_ _); rotate_left; (focus (first | omega | (simp; done) | (simp; omega)))) | (with_reducible refine Below.drew ?_)))

set_option maxHeartbeats 4000000 in
set_option maxRecDepth 100000 in
theorem withChange_span (a b c d e f g h i j k l : Int) (s : ByteArray) (x1 x2 x4 x5 : Int) (x3 : ByteArray) (w : World) :
    Calls Tryz.prog 114 #[.agg #[.int .i64 a, .int .i64 b, .int .i64 c, .int .i64 d, .int .i64 e, .int .i64 f, .int .i64 g, .int .i64 h, .int .i64 i, .string s, .int .i64 j, .int .i64 k, .int .i64 l], .iface 157 (.agg #[.int .i64 x1, .int .i64 x2, .string x3, .int .i64 x4, .int .i64 x5])] w fun en w' => en = .returned (.agg #[.int .i64 a, .int .i64 b, .int .i64 c, .int .i64 d, .int .i64 e, .int .i64 1, .int .i64 g, .int .i64 x1, .int .i64 x2, .string x3, .int .i64 x4, .int .i64 x5, .int .i64 l]) ∧ Below w.heap.size w w' := by
  have t0 := ta_span
  go_enter Tryz.func114, Tryz.ntmps114
  go_wp2_with fail
  go_region
  all_goals go_wp2_with fail
  all_goals refine bodyPost_ret (v := .agg #[.int .i64 a, .int .i64 b, .int .i64 c, .int .i64 d, .int .i64 e, .int .i64 1, .int .i64 g, .int .i64 x1, .int .i64 x2, .string x3, .int .i64 x4, .int .i64 x5, .int .i64 l]) (by simp [results, Tryz.results114, go_sem]) rfl ⟨rfl, ?_⟩
  all_goals (repeat (first | (with_reducible exact Below.refl _ _) | ((with_reducible refine Below.setCell ?_ ?_ _); rotate_left; (focus (first | omega | (simp; done) | (simp; omega)))) | ((with_reducible refine Below.alloc ?_ ?_ _); rotate_left; (focus (first | omega | (simp; done) | (simp; omega)))) | (with_reducible refine Below.drew ?_)))

end Go.Proofs.YtccendmoeelniaaGreatDoor
