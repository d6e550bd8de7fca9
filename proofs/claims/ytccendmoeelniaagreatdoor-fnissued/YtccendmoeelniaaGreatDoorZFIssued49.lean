/-
  Texts of one proof, joined: Math37, SameS, Within.
-/
import Derived.Test.YtccendmoeelniaaGreatDoorZFIssued16
import Derived.Test.YtccendmoeelniaaGreatDoorZFIssued13
import Derived.Test.YtccendmoeelniaaGreatDoorZFIssued04
import Derived.Test.YtccendmoeelniaaGreatDoorZFIssued02
import Derived.Test.YtccendmoeelniaaGreatDoorZFIssued01
namespace M1
def le2 (a b x y : Int) : Prop := a < x ∨ (x = a ∧ b ≤ y)

theorem le2.trans {a b c d e f : Int} (h : le2 a b c d) (k : le2 c d e f) : le2 a b e f := by
 unfold le2 at *; omega

theorem nu_late {r : Rg} {o : OpV} {now : Int} (h : rOk r = true) (h4 : (tk r now).ok = true) : ∀ i, i < r.us.length → ((up r.us i).sw < (nuU r o now).sw ∨ ((up r.us i).sw = (nuU r o now).sw ∧ (up r.us i).sc < (nuU r o now).sc)) := fun i hi => by
 obtain ⟨_, _, _, _, hl⟩ := rOk_all h
 obtain ⟨_, _, t3⟩ := tick_all h h4
 obtain ⟨_, _, d3, d4, _⟩ := nuU_dot r o now
 have := noneLater_all hl i hi
 rw [d3, d4]
 simp [laterB] at this
 omega

theorem ofT_mem {kd tr : Int} {us : List Upd} : ∀ n x, x ∈ ofT kd tr us n → ∃ i, i < n ∧ up us i = x ∧ x.k = kd ∧ x.tr = tr
 | 0, x, h => by cases h
 | n + 1, x, h => by
  by_cases q : (up us n).k = kd ∧ (up us n).tr = tr
  ·rw [ofT_yes q] at h
   rcases List.mem_append.1 h with h | h
   ·obtain ⟨i, hi, e⟩ := ofT_mem n x h; exact ⟨i, by omega, e⟩
   ·have e := List.mem_singleton.1 h
    exact ⟨n, by omega, e.symm, by rw [e]; exact q.1, by rw [e]; exact q.2⟩
  ·rw [ofT_no q] at h
   obtain ⟨i, hi, e⟩ := ofT_mem n x h; exact ⟨i, by omega, e⟩

theorem mem_ofT {kd tr : Int} {us : List Upd} : ∀ n i, i < n → (up us i).k = kd → (up us i).tr = tr → up us i ∈ ofT kd tr us n
 | 0, i, h, _, _ => absurd h (Nat.not_lt_zero _)
 | n + 1, i, h, hk, ht => by
  by_cases e : i = n
  ·subst e; rw [ofT_yes ⟨hk, ht⟩]; simp
  ·have := mem_ofT (kd := kd) (tr := tr) (us := us) n i (by omega) hk ht
   by_cases q : (up us n).k = kd ∧ (up us n).tr = tr
   ·rw [ofT_yes q]; exact List.mem_append.2 (.inl this)
   ·rw [ofT_no q]; exact this

theorem lvl_le {xs : List Upd} {m : Int} (h0 : 0 ≤ m) (h : ∀ x ∈ xs, x.lv ≤ m) : lvl xs ≤ m := by
 have key : ∀ (l : List Upd) (a : Int), a ≤ m → (∀ x ∈ l, x.lv ≤ m) → l.foldl (fun m u => max m u.lv) a ≤ m := by
  intro l
  induction l with
  | nil => intro a ha _; exact ha
  | cons u t ih => intro a ha hx; exact ih _ (by have := hx u (List.mem_cons_self ..); show max a u.lv ≤ m; omega) (fun x hx' => hx x (List.mem_cons_of_mem _ hx'))
 exact key xs 0 h0 h

theorem le_lvl {xs : List Upd} {x : Upd} (hx : x ∈ xs) : x.lv ≤ lvl xs := by
 have mono : ∀ (l : List Upd) (a : Int), a ≤ l.foldl (fun m u => max m u.lv) a := by
  intro l
  induction l with
  | nil => intro a; exact Int.le_refl _
  | cons u t ih => intro a; have := ih (max a u.lv); show a ≤ t.foldl _ (max a u.lv); omega
 have key : ∀ (l : List Upd) (a : Int), x ∈ l → x.lv ≤ l.foldl (fun m u => max m u.lv) a := by
  intro l
  induction l with
  | nil => intro a h; cases h
  | cons u t ih =>
   intro a h
   rcases List.mem_cons.1 h with e | h
   ·have := mono t (max a u.lv); rw [e]; show u.lv ≤ t.foldl _ (max a u.lv); omega
   ·exact ih _ h
 exact key xs 0 hx

theorem nu_mem {r : Rg} {o : OpV} {now : Int} (h : rOk r = true) (x : Upd) : x ∈ insD r.us (nuU r o now) ↔ x = nuU r o now ∨ x ∈ r.us := by
 rw [(insD_new (nu_new (o := o) (now := now) h)).mem_iff]; exact List.mem_cons

theorem nu_level {r : Rg} {o : OpV} {now : Int} (h : rOk r = true) (h1 : ¬ o.k = 1) (h2 : ¬ o.k = 2) : lvT (insD r.us (nuU r o now)) o.t = lvT r.us o.t + 1 := by
 have e := nuU_3 (r := r) (now := now) h1 h2
 have hk : (nuU r o now).k = 3 := by rw [e]
 have ht : (nuU r o now).tr = o.t := by rw [e]
 have hl : (nuU r o now).lv = lvT r.us o.t + 1 := by rw [e]
 have h0 : 0 ≤ lvT r.us o.t := lvl_nonneg _
 apply Int.le_antisymm
 ·refine lvl_le (by omega) fun x hx => ?_
  obtain ⟨i, hi, ex, xk, xt⟩ := ofT_mem _ x hx
  rcases (nu_mem h x).1 (by rw [← ex]; exact up_mem hi) with q | q
  ·rw [q, hl]; omega
  ·obtain ⟨j, hj, ej⟩ := mem_up q
   have := le_lvl (mem_ofT (kd := 3) (tr := o.t) (us := r.us) r.us.length j hj (by rw [ej]; exact xk) (by rw [ej]; exact xt))
   rw [ej] at this
   show x.lv ≤ lvT r.us o.t + 1
   unfold lvT; omega
 ·obtain ⟨i, hi, ei⟩ := mem_up ((nu_mem (o := o) (now := now) h _).2 (.inl rfl))
  have := le_lvl (mem_ofT (kd := 3) (tr := o.t) (us := insD r.us (nuU r o now)) _ i hi (by rw [ei]; exact hk) (by rw [ei]; exact ht))
  rw [ei, hl] at this
  exact this

theorem nu_kept {r : Rg} {o : OpV} {now : Int} (h : rOk r = true) (h2 : o.k = 2) : ofT 2 o.t (insD r.us (nuU r o now)) (insD r.us (nuU r o now)).length ≠ [] := fun e => by
 have e2 := nuU_2 (r := r) (now := now) h2
 obtain ⟨i, hi, ei⟩ := mem_up ((nu_mem (o := o) (now := now) h _).2 (.inl rfl))
 have := mem_ofT (kd := 2) (tr := o.t) (us := insD r.us (nuU r o now)) _ i hi (by rw [ei, e2]) (by rw [ei, e2])
 rw [e] at this; cases this

theorem is_zero {r : Rg} {o : OpV} {now : Int} (h : isC r o now = 0) : rOk r = true ∧ isF o now = false ∧ letsB r.us o = true ∧ (tk r now).ok = true ∧ tOk r.us [nuU r o now] = true := by
 unfold isC at h
 cases q : rOk r with
 | false => rw [q] at h; simp at h
 | true =>
  rw [q] at h
  cases q2 : isF o now with
  | true => rw [q2] at h; simp at h
  | false =>
   rw [q2] at h
   cases q3 : letsB r.us o with
   | false => rw [q3] at h; simp at h
   | true =>
    rw [q3] at h
    cases q4 : (tk r now).ok with
    | false => rw [q4] at h; simp at h
    | true =>
     rw [q4] at h
     cases q5 : tOk r.us [nuU r o now] with
     | false => rw [q5] at h; simp at h
     | true => exact ⟨rfl, rfl, rfl, rfl, rfl⟩

theorem isF_kind {o : OpV} {now : Int} (h : isF o now = false) : o.k = 1 ∨ o.k = 2 ∨ o.k = 3 ∨ o.k = 4 := by
 unfold isF at h
 simp at h
 exact opB_kind h.2

end M1

namespace M1
theorem ueq_self (u : Upd) : ueq u u = true := by simp [ueq]

end M1
namespace Go.Proofs.YtccendmoeelniaaGreatDoor
open Go.ChangeShapes Go.WideShapes Go.ChangeAt Go.RowKit
set_option linter.unusedSimpArgs false
set_option linter.unusedVariables false
theorem big_any (av : Option Addr) (len cap : Nat) (w : World) (hc : len ≤ cap) (hm : cap ≤ maxLen) :
  Calls Tryz.prog 8 #[.slice av len cap] w fun e w' => e = .returned (.bool (decide ((1048576 : Int) < (len : Int)))) ∧ w' = w := by
 unfold maxLen at hm
 go_enter Tryz.func8, Tryz.ntmps8
 go_wp2
 go_ret
 exact ⟨rfl, rfl⟩

attribute [local go_sem high] eqU
set_option maxHeartbeats 4000000 in
theorem sameSet_self (av bv : Option Addr) (n cn cm : Nat) (us : List M1.Upd) (w : World) (h1 : IsUpds w av n cn us) (h2 : IsUpds w bv n cm us) :
  Calls Tryz.prog 23 #[.slice av n cn, .slice bv n cm] w fun e w' => e = .returned (.bool true) ∧ Below w.heap.size w w' := by
 have hm1 := h1.hcap
 have hm2 := h1.hmost
 have hm3 := h2.hcap
 have hm4 := h2.hmost
 unfold maxLen at hm2 hm4
 have hnb : ((n : Int) != (n : Int)) = false := by simp
 go_enter Tryz.func23, Tryz.ntmps23
 go_wp2_with fail
 go_loopw [5] (fun i wr => ∃ k : Nat, k ≤ n ∧ i = .int .i64 k ∧ Below w.heap.size w wr) (fun i _ => n - (intOf i).toNat)
 case atStart => exact ⟨0, Nat.zero_le _, rfl, Below.refl _ _⟩
 case round =>
  obtain ⟨k, hk, rfl, hB⟩ := hrel
  by_cases hlt : k < n
  ·have g1 := h1.below hB
   have g2 := h2.below hB
   rcases g1.hlies with h0 | ⟨b, off, rfl, hb, hc⟩
   ·omega
   rcases g2.hlies with h0 | ⟨b2, off2, rfl, hb2, hc2⟩
   ·omega
   obtain ⟨c0, c1, c2, c3, c4, c5, c6, c7, c8, c9, c10, c11, c12⟩ := hc k hlt
   obtain ⟨d0, d1, d2, d3, d4, d5, d6, d7, d8, d9, d10, d11, d12⟩ := hc2 k hlt
   clear hc hc2 g1 g2
   have i0 : (0 : Int) ≤ (k : Int) := by omega
   have i1 : (k : Int) < (n : Int) := by omega
   have hq := M1.ueq_self (M1.up us k)
   go_wp2_with fail
   go_region_held3 (fun w' => Kp wr w') (first | exact kp_zero _ | exact kp_drew (by assumption) | exact kp_step (by assumption) (by assumption)) (fail)
   rename_i hK
   have hB' := hB.trans (hK.1.mono hB.size)
   go_wp2_with fail
   exact ⟨⟨k + 1, by omega, by go_num, hB'⟩, by simp [intOf]; omega⟩
  ·go_wp2_with fail
   go_ret
   exact ⟨rfl, hB⟩

theorem sameRegion_self (id a b c : Int) (av bv : Option Addr) (n cn cm : Nat) (us : List M1.Upd) (w : World) (h1 : IsUpds w av n cn us) (h2 : IsUpds w bv n cm us) :
  Calls Tryz.prog 12 #[.agg #[.int .i64 id, .int .i64 a, .int .i64 b, .int .i64 c, .slice av n cn], .agg #[.int .i64 id, .int .i64 a, .int .i64 b, .int .i64 c, .slice bv n cm]] w fun e w' => e = .returned (.bool true) ∧ Below w.heap.size w w' := by
 go_enter Tryz.func12, Tryz.ntmps12
 go_wp2_with fail
 refine (sameSet_self _ _ _ _ _ _ _ (h1.below (?_ : Below w.heap.size w _)) (h2.below (?_ : Below w.heap.size w _))).mono ?_
 ·repeat (first | (with_reducible exact Below.refl _ _) | ((with_reducible refine Below.setCell ?_ ?_ _); rotate_left; (focus (first | omega | (simp; done) | (simp; omega)))) | ((with_reducible refine Below.alloc ?_ ?_ _); rotate_left; (focus (first | omega | (simp; done) | (simp; omega)))) | (with_reducible refine Below.drew ?_))
 ·repeat (first | (with_reducible exact Below.refl _ _) | ((with_reducible refine Below.setCell ?_ ?_ _); rotate_left; (focus (first | omega | (simp; done) | (simp; omega)))) | ((with_reducible refine Below.alloc ?_ ?_ _); rotate_left; (focus (first | omega | (simp; done) | (simp; omega)))) | (with_reducible refine Below.drew ?_))
 rintro e w1 ⟨rfl, hb1⟩
 go_wp2_with fail
 go_ret
 refine ⟨rfl, ?_⟩
 repeat (first | (with_reducible exact Below.refl _ _) | ((with_reducible refine Below.setCell ?_ ?_ _); rotate_left; (focus (first | omega | (simp; done) | (simp; omega)))) | ((with_reducible refine Below.alloc ?_ ?_ _); rotate_left; (focus (first | omega | (simp; done) | (simp; omega)))) | (with_reducible refine Below.drew ?_) | ((with_reducible refine Below.trans ?_ (Below.mono hb1 ?_)); rotate_left; (focus (first | omega | (simp; done) | (simp; omega)))))

end Go.Proofs.YtccendmoeelniaaGreatDoor

namespace Go.Proofs.YtccendmoeelniaaGreatDoor
open Go.ChangeShapes Go.WideShapes Go.ChangeAt Go.RowKit
set_option linter.unusedSimpArgs false
set_option linter.unusedVariables false
attribute [local go_sem high] eqU
set_option maxHeartbeats 40000000 in
set_option maxRecDepth 100000 in
theorem within_yes (av bv : Option Addr) (n cn m cm : Nat) (xs ys : List M1.Upd) (w : World) (h1 : IsUpds w av n cn xs) (h2 : IsUpds w bv m cm ys) (hin : Hid (∀ i, i < n → ∃ j, j < m ∧ M1.up ys j = M1.up xs i)) :
  Calls Tryz.prog 16 #[.slice av n cn, .slice bv m cm] w fun e w' => e = .returned (.bool true) ∧ Below w.heap.size w w' := by
 have hm1 := h1.hcap
 have hm2 := h1.hmost
 have hm3 := h2.hcap
 have hm4 := h2.hmost
 unfold maxLen at hm2 hm4
 go_enter Tryz.func16, Tryz.ntmps16
 go_wp2_with fail
 go_loopw [5] (fun i wr => ∃ k : Nat, k ≤ n ∧ i = .int .i64 k ∧ Below w.heap.size w wr) (fun i _ => n - (intOf i).toNat)
 case atStart => exact ⟨0, Nat.zero_le _, rfl, Below.refl _ _⟩
 case round =>
  obtain ⟨k, hk, rfl, hBo⟩ := hrel
  by_cases hlt : k < n
  ·obtain ⟨Wo, hWo⟩ : ∃ W, W = wr := ⟨_, rfl⟩
   subst hWo
   go_wp2_with fail
   go_loopw [6, 7] (fun t i wr => ∃ (q : Nat) (b : Bool), q ≤ m ∧ i = .int .i64 q ∧ t = .bool b ∧ (b = true ∨ Hid (∀ j, j < q → M1.ueq (M1.up ys j) (M1.up xs k) = false)) ∧ Below w.heap.size w wr) (fun _ i _ => m - (intOf i).toNat)
   case atStart => exact ⟨0, false, Nat.zero_le _, rfl, rfl, Or.inr (fun j hj => absurd hj (Nat.not_lt_zero _)), hBo⟩
   case round =>
    clear hBo
    obtain ⟨q, b, hq, rfl, rfl, hor, hB⟩ := hrel
    by_cases hqm : q < m
    ·have g1 := h1.below hB
     have g2 := h2.below hB
     rcases g1.hlies with h0 | ⟨b1, off, rfl, hb, hc⟩
     ·omega
     rcases g2.hlies with h0 | ⟨b2, off2, rfl, hb2, hc2⟩
     ·omega
     obtain ⟨c0, c1, c2, c3, c4, c5, c6, c7, c8, c9, c10, c11, c12⟩ := hc k hlt
     obtain ⟨d0, d1, d2, d3, d4, d5, d6, d7, d8, d9, d10, d11, d12⟩ := hc2 q hqm
     clear hc hc2 g1 g2
     have i0 : (0 : Int) ≤ (k : Int) := by omega
     have i1 : (k : Int) < (n : Int) := by omega
     have i2 : (0 : Int) ≤ (q : Int) := by omega
     have i3 : (q : Int) < (m : Int) := by omega
     cases b with
     | true =>
      clear hor
      go_wp2_with fail
      refine wp_region_held_drew (S := fun w' => Kp wr w') (by kernel_rfl) ?_ (fun hHeld => ?_)
      ·exact kp_zero _
      refine tZ (i:=0) (v:=?_) rfl (.inl ⟨by rfl, ?_⟩) hHeld ?_
      rotate_left
      ·(intro w hSw; (try dsimp only at hSw); go_simp; try (with_reducible rfl))
      (try simp only [Act.put, zZ])
      refine tZ (i:=1) (v:=?_) rfl (.inl ⟨by rfl, ?_⟩) hHeld ?_
      rotate_left
      ·(intro w hSw; (try dsimp only at hSw); go_simp; try (with_reducible rfl))
      (try simp only [Act.put, zZ])
      refine tZ (i:=2) (v:=undef) rfl (.inr ⟨by rfl, rfl⟩) hHeld ?_
      (try simp only [Act.put, zZ])
      refine tZ (i:=3) (v:=undef) rfl (.inr ⟨by rfl, rfl⟩) hHeld ?_
      (try simp only [Act.put, zZ])
      refine tZ (i:=4) (v:=undef) rfl (.inr ⟨by rfl, rfl⟩) hHeld ?_
      (try simp only [Act.put, zZ])
      refine tZ (i:=5) (v:=undef) rfl (.inr ⟨by rfl, rfl⟩) hHeld ?_
      (try simp only [Act.put, zZ])
      refine tZ (i:=6) (v:=undef) rfl (.inr ⟨by rfl, rfl⟩) hHeld ?_
      (try simp only [Act.put, zZ])
      refine tZ (i:=7) (v:=undef) rfl (.inr ⟨by rfl, rfl⟩) hHeld ?_
      (try simp only [Act.put, zZ])
      refine tZ (i:=8) (v:=undef) rfl (.inr ⟨by rfl, rfl⟩) hHeld ?_
      (try simp only [Act.put, zZ])
      refine tZ (i:=9) (v:=undef) rfl (.inr ⟨by rfl, rfl⟩) hHeld ?_
      (try simp only [Act.put, zZ])
      refine tZ (i:=10) (v:=undef) rfl (.inr ⟨by rfl, rfl⟩) hHeld ?_
      (try simp only [Act.put, zZ])
      refine tZ (i:=11) (v:=?_) rfl (.inl ⟨by rfl, ?_⟩) hHeld ?_
      rotate_left
      ·(intro w hSw; (try dsimp only at hSw); go_simp; try (with_reducible rfl))
      (try simp only [Act.put, zZ])
      refine tZ (i:=12) (v:=?_) rfl (.inl ⟨by rfl, ?_⟩) hHeld ?_
      rotate_left
      ·(intro w hSw; (try dsimp only at hSw); go_simp; try (with_reducible rfl))
      (try simp only [Act.put, zZ])
      refine wpAnyH_done (by kernel_rfl) ?_ _
      have hB' := hB.trans (hHeld.1.mono hB.size)
      clear hHeld
      go_wp2_with fail
      exact ⟨⟨q + 1, true, by omega, by go_num, rfl, Or.inl rfl, hB'⟩, by simp [intOf]; omega⟩
     | false =>
      have hor' : Hid (∀ j, j < q → M1.ueq (M1.up ys j) (M1.up xs k) = false) := hor.resolve_left (by simp)
      clear hor
      by_cases hu : M1.ueq (M1.up ys q) (M1.up xs k) = true
      ·clear hor'
       go_wp2_with fail
       refine wp_region_held_drew (S := fun w' => Kp wr w') (by kernel_rfl) ?_ (fun hHeld => ?_)
       ·exact kp_zero _
       refine tZ (i:=0) (v:=?_) rfl (.inl ⟨by rfl, ?_⟩) hHeld ?_
       rotate_left
       ·(intro w hSw; (try dsimp only at hSw); go_simp; try (with_reducible rfl))
       (try simp only [Act.put, zZ])
       refine tZ (i:=1) (v:=?_) rfl (.inl ⟨by rfl, ?_⟩) hHeld ?_
       rotate_left
       ·(intro w hSw; (try dsimp only at hSw); go_simp; try (with_reducible rfl))
       (try simp only [Act.put, zZ])
       refine tZ (i:=2) (v:=?_) rfl (.inl ⟨by rfl, ?_⟩) hHeld ?_
       rotate_left
       ·(intro w hSw; (try dsimp only at hSw); go_simp; try (with_reducible rfl))
       (try simp only [Act.put, zZ])
       refine tZ (i:=3) (v:=?_) rfl (.inl ⟨by rfl, ?_⟩) hHeld ?_
       rotate_left
       ·(intro w hSw; (try dsimp only at hSw); go_simp; try (with_reducible rfl))
       (try simp only [Act.put, zZ])
       refine tZ (i:=4) (v:=?_) rfl (.inl ⟨by rfl, ?_⟩) hHeld ?_
       rotate_left
       ·(intro w hSw; (try dsimp only at hSw); go_simp; try (with_reducible rfl))
       (try simp only [Act.put, zZ])
       refine tZ (i:=5) (v:=?_) rfl (.inl ⟨by rfl, ?_⟩) hHeld ?_
       rotate_left
       ·(intro w hSw; (try dsimp only at hSw); go_simp; try (with_reducible rfl))
       (try simp only [Act.put, zZ])
       refine tZ (i:=6) (v:=?_) rfl (.inl ⟨by rfl, ?_⟩) hHeld ?_
       rotate_left
       ·(intro w hSw; (try dsimp only at hSw); go_simp; try (with_reducible rfl))
       (try simp only [Act.put, zZ])
       refine tZ (i:=7) (v:=?_) rfl (.inl ⟨by rfl, ?_⟩) hHeld ?_
       rotate_left
       ·(intro w hSw; (try dsimp only at hSw); go_simp; try (with_reducible rfl))
       (try simp only [Act.put, zZ])
       refine tZ (i:=8) (v:=?_) rfl (.inl ⟨by rfl, ?_⟩) hHeld ?_
       rotate_left
       ·(intro w hSw; (try dsimp only at hSw); go_simp; try (with_reducible rfl))
       (try simp only [Act.put, zZ])
       refine tZ (i:=9) (v:=?_) rfl (.inl ⟨by rfl, ?_⟩) hHeld ?_
       rotate_left
       ·(intro w hSw; (try dsimp only at hSw); go_simp; try (with_reducible rfl))
       (try simp only [Act.put, zZ])
       refine tZ (i:=10) (v:=.bool true) rfl (.inl ⟨by rfl, ?_⟩) hHeld ?_
       ·(intro w hSw; (try dsimp only at hSw); go_simp; (try simp [hu]))
       (try simp only [Act.put, zZ])
       refine tZ (i:=11) (v:=?_) rfl (.inl ⟨by rfl, ?_⟩) hHeld ?_
       rotate_left
       ·(intro w hSw; (try dsimp only at hSw); go_simp; try (with_reducible rfl))
       (try simp only [Act.put, zZ])
       refine tZ (i:=12) (v:=?_) rfl (.inl ⟨by rfl, ?_⟩) hHeld ?_
       rotate_left
       ·(intro w hSw; (try dsimp only at hSw); go_simp; try (with_reducible rfl))
       (try simp only [Act.put, zZ])
       refine wpAnyH_done (by kernel_rfl) ?_ _
       have hB' := hB.trans (hHeld.1.mono hB.size)
       clear hHeld
       go_wp2_with fail
       exact ⟨⟨q + 1, true, by omega, by go_num, rfl, Or.inl rfl, hB'⟩, by simp [intOf]; omega⟩
      ·replace hu : M1.ueq (M1.up ys q) (M1.up xs k) = false := by simpa using hu
       have HQ : Hid (∀ j, j < q + 1 → M1.ueq (M1.up ys j) (M1.up xs k) = false) := fun j hj => by
        by_cases e : j = q
        ·rw [e]; exact hu
        ·exact hor'.out j (by omega)
       clear hor'
       go_wp2_with fail
       refine wp_region_held_drew (S := fun w' => Kp wr w') (by kernel_rfl) ?_ (fun hHeld => ?_)
       ·exact kp_zero _
       refine tZ (i:=0) (v:=?_) rfl (.inl ⟨by rfl, ?_⟩) hHeld ?_
       rotate_left
       ·(intro w hSw; (try dsimp only at hSw); go_simp; try (with_reducible rfl))
       (try simp only [Act.put, zZ])
       refine tZ (i:=1) (v:=?_) rfl (.inl ⟨by rfl, ?_⟩) hHeld ?_
       rotate_left
       ·(intro w hSw; (try dsimp only at hSw); go_simp; try (with_reducible rfl))
       (try simp only [Act.put, zZ])
       refine tZ (i:=2) (v:=?_) rfl (.inl ⟨by rfl, ?_⟩) hHeld ?_
       rotate_left
       ·(intro w hSw; (try dsimp only at hSw); go_simp; try (with_reducible rfl))
       (try simp only [Act.put, zZ])
       refine tZ (i:=3) (v:=?_) rfl (.inl ⟨by rfl, ?_⟩) hHeld ?_
       rotate_left
       ·(intro w hSw; (try dsimp only at hSw); go_simp; try (with_reducible rfl))
       (try simp only [Act.put, zZ])
       refine tZ (i:=4) (v:=?_) rfl (.inl ⟨by rfl, ?_⟩) hHeld ?_
       rotate_left
       ·(intro w hSw; (try dsimp only at hSw); go_simp; try (with_reducible rfl))
       (try simp only [Act.put, zZ])
       refine tZ (i:=5) (v:=?_) rfl (.inl ⟨by rfl, ?_⟩) hHeld ?_
       rotate_left
       ·(intro w hSw; (try dsimp only at hSw); go_simp; try (with_reducible rfl))
       (try simp only [Act.put, zZ])
       refine tZ (i:=6) (v:=?_) rfl (.inl ⟨by rfl, ?_⟩) hHeld ?_
       rotate_left
       ·(intro w hSw; (try dsimp only at hSw); go_simp; try (with_reducible rfl))
       (try simp only [Act.put, zZ])
       refine tZ (i:=7) (v:=?_) rfl (.inl ⟨by rfl, ?_⟩) hHeld ?_
       rotate_left
       ·(intro w hSw; (try dsimp only at hSw); go_simp; try (with_reducible rfl))
       (try simp only [Act.put, zZ])
       refine tZ (i:=8) (v:=?_) rfl (.inl ⟨by rfl, ?_⟩) hHeld ?_
       rotate_left
       ·(intro w hSw; (try dsimp only at hSw); go_simp; try (with_reducible rfl))
       (try simp only [Act.put, zZ])
       refine tZ (i:=9) (v:=?_) rfl (.inl ⟨by rfl, ?_⟩) hHeld ?_
       rotate_left
       ·(intro w hSw; (try dsimp only at hSw); go_simp; try (with_reducible rfl))
       (try simp only [Act.put, zZ])
       refine tZ (i:=10) (v:=.bool false) rfl (.inl ⟨by rfl, ?_⟩) hHeld ?_
       ·(intro w hSw; (try dsimp only at hSw); go_simp; (try simp [hu]))
       (try simp only [Act.put, zZ])
       refine tZ (i:=11) (v:=?_) rfl (.inl ⟨by rfl, ?_⟩) hHeld ?_
       rotate_left
       ·(intro w hSw; (try dsimp only at hSw); go_simp; try (with_reducible rfl))
       (try simp only [Act.put, zZ])
       refine tZ (i:=12) (v:=?_) rfl (.inl ⟨by rfl, ?_⟩) hHeld ?_
       rotate_left
       ·(intro w hSw; (try dsimp only at hSw); go_simp; try (with_reducible rfl))
       (try simp only [Act.put, zZ])
       refine wpAnyH_done (by kernel_rfl) ?_ _
       have hB' := hB.trans (hHeld.1.mono hB.size)
       clear hHeld
       go_wp2_with fail
       exact ⟨⟨q + 1, false, by omega, by go_num, rfl, Or.inr HQ, hB'⟩, by simp [intOf]; omega⟩
    ·have hb : b = true := by
      rcases hor with h | h
      ·exact h
      ·obtain ⟨j, hj, e⟩ := hin.out k hlt
       have := h.out j (by omega)
       rw [e, M1.ueq_self] at this
       cases this
     subst hb
     clear hor
     go_wp2_with fail
     exact ⟨⟨k + 1, by omega, by go_num, hB⟩, by simp [intOf]; omega⟩
  ·go_wp2_with fail
   go_ret
   exact ⟨rfl, hBo⟩

end Go.Proofs.YtccendmoeelniaaGreatDoor
