/-
  For every slice of bytes the law FnTicked answers true: a clock that ticks goes on, and not behind the time; one that meets another one is behind neither; the argument reads as it did. No condition.
-/
import Derived.Test.YtmldlpmjdfomfaaDrawT
import Derived.Test.YtmldlpmjdfomfaaMeet
import Derived.ShutString
import Derived.ChangeOld
namespace Go.Proofs.Ytmldlpmjdfomfaa.fnTicked
open Go.ChangeShapes Go.WideShapes Go.ChangeAt Go.RowKit
set_option linter.unusedVariables false

theorem big_any (av : Option Addr) (len cap : Nat) (w : World) (hc : len ≤ cap) (hm : cap ≤ maxLen) :
    Calls Try.prog 6 #[.slice av len cap] w fun e w' => e = .returned (.bool (decide ((1048576 : Int) < (len : Int)))) ∧ w' = w := by
  unfold maxLen at hm
  go_enter Try.func6, Try.ntmps6
  go_wp2
  go_ret
  exact ⟨rfl, rfl⟩

set_option maxHeartbeats 8000000 in
set_option maxRecDepth 100000 in
theorem walk (av : Option Addr) (len cap : Nat) (w : World) (h : IsBytes w av len cap) :
    Calls Try.prog 4 #[.slice av len cap] w fun e w' => e = .returned (.bool true) ∧ Below w.heap.size w w' := by
  by_cases hl : (1048576 : Int) < (len : Int)
  · go_enter Try.func4, Try.ntmps4
    go_wp2_with fail
    refine (big_any _ _ _ _ h.hc h.hm).mono ?_
    rw [decide_eq_true hl]
    rintro e w0 ⟨rfl, rfl⟩
    go_wp2_with fail
    go_ret
    exact ⟨rfl, Below.refl _ _⟩
  · go_enter Try.func4, Try.ntmps4
    go_wp2_with fail
    refine (big_any _ _ _ _ h.hc h.hm).mono ?_
    rw [decide_eq_false (by omega : ¬ (1048576 : Int) < (len : Int))]
    rintro e w0 ⟨rfl, rfl⟩
    clear hl
    go_wp2_with fail
    refine (drawTicked_any _ _ _ _ h).mono ?_
    rintro e w1 ⟨a, b, c, t, rfl, _, _, _, _, hB1⟩
    have hs1 := hB1.size
    go_wp2_with fail
    refine (ticked_impl _ _ _ _ _).mono ?_
    rintro e w2 ⟨rfl, hb2⟩
    obtain ⟨hc2, hf2, hz2, hn2⟩ := brules hb2
    have hs2 := hb2.size
    simp at hs2
    have hs2a : w1.heap.size < w2.heap.size := by omega
    go_wp2_with fail
    refine (ticked_spec _ _ _ _ _).mono ?_
    rintro e w3 ⟨rfl, hb3⟩
    obtain ⟨hc3, hf3, hz3, hn3⟩ := brules hb3
    have hs3 := hb3.size
    simp at hs3
    have hs3a : w1.heap.size < w3.heap.size := by omega
    have hs3b : w2.heap.size < w3.heap.size := by omega
    have hs3c : w1.heap.size < w2.heap.size + 1 := by omega
    have HP : Hid ((M1.tickP a b c t).ok = true → M1.aheadB a b c (M1.tickP a b c t).a (M1.tickP a b c t).b (M1.tickP a b c t).c = true ∧ t ≤ (M1.tickP a b c t).a ∧ (M1.tickP a b c t).c = c ∧ M1.stOk (M1.tickP a b c t).a (M1.tickP a b c t).b (M1.tickP a b c t).c = true) := M1.tick_props
    generalize M1.tickP a b c t = T at *
    obtain ⟨ta, tb, tc, tk⟩ := T
    cases tk with
    | false =>
      clear HP
      have HB : Below w0.heap.size w0 (w3.alloc (.cells #[.int .i64 ta, .int .i64 tb, .int .i64 tc] 25)) := by
        repeat (first | (with_reducible exact Below.refl _ _) | ((with_reducible refine Below.setCell ?_ ?_ _); rotate_left; (focus (first | omega | (simp; done) | (simp; omega)))) | ((with_reducible refine Below.alloc ?_ ?_ _); rotate_left; (focus (first | omega | (simp; done) | (simp; omega)))) | (with_reducible refine Below.drew ?_) | ((with_reducible refine Below.trans ?_ (Below.mono hb3 ?_)); rotate_left; (focus (first | omega | (simp; done) | (simp; omega)))) | ((with_reducible refine Below.trans ?_ (Below.mono hb2 ?_)); rotate_left; (focus (first | omega | (simp; done) | (simp; omega)))) | ((with_reducible refine Below.trans ?_ (Below.mono hB1 ?_)); rotate_left; (focus (first | omega | (simp; done) | (simp; omega)))))
      go_wp2_with fail
      refine (drawMet_any _ _ _ _ (h.below (Nat.le_refl _) HB)).mono ?_
      rintro e v1 ⟨d, f, g, x, y, z, s, rfl, _, _, _, _, _, _, _, hC1⟩
      have ks1 := hC1.size
      (try simp at ks1)
      go_wp2_with fail
      refine (met_impl _ _ _ _ _ _ _ _).mono ?_
      rintro e v2 ⟨rfl, hc2⟩
      obtain ⟨kc2, kf2, kz2, kn2⟩ := brules hc2
      have ks2 := hc2.size
      simp at ks2
      have ks2a : v1.heap.size < v2.heap.size := by omega
      have ks2b : v1.heap.size + 1 < v2.heap.size := by omega
      go_wp2_with fail
      refine (met_spec _ _ _ _ _ _ _ _).mono ?_
      rintro e v3 ⟨rfl, hc3⟩
      obtain ⟨kc3, kf3, kz3, kn3⟩ := brules hc3
      have ks3 := hc3.size
      simp at ks3
      have ks3a : v1.heap.size < v3.heap.size := by omega
      have ks3b : v1.heap.size + 1 < v3.heap.size := by omega
      have ks3c : v2.heap.size < v3.heap.size := by omega
      have ks3d : v1.heap.size < v2.heap.size + 1 := by omega
      have ks3e : v1.heap.size + 1 < v2.heap.size + 1 := by omega
      have HM : Hid ((M1.metP d f g x y z s).ok = true → M1.aheadB d f g (M1.metP d f g x y z s).a (M1.metP d f g x y z s).b (M1.metP d f g x y z s).c = true ∧ (x < (M1.metP d f g x y z s).a ∨ ((M1.metP d f g x y z s).a = x ∧ y < (M1.metP d f g x y z s).b)) ∧ s ≤ (M1.metP d f g x y z s).a ∧ (M1.metP d f g x y z s).c = g ∧ M1.stOk (M1.metP d f g x y z s).a (M1.metP d f g x y z s).b (M1.metP d f g x y z s).c = true) := M1.met_props
      generalize M1.metP d f g x y z s = M at *
      obtain ⟨ma, mb, mc, mk⟩ := M
      cases mk with
      | false =>
        clear HM
        go_wp2_with fail
        go_ret
        refine ⟨rfl, ?_⟩
        repeat (first | (with_reducible exact Below.refl _ _) | ((with_reducible refine Below.setCell ?_ ?_ _); rotate_left; (focus (first | omega | (simp; done) | (simp; omega)))) | ((with_reducible refine Below.alloc ?_ ?_ _); rotate_left; (focus (first | omega | (simp; done) | (simp; omega)))) | (with_reducible refine Below.drew ?_) | ((with_reducible refine Below.trans ?_ (Below.mono hc3 ?_)); rotate_left; (focus (first | omega | (simp; done) | (simp; omega)))) | ((with_reducible refine Below.trans ?_ (Below.mono hc2 ?_)); rotate_left; (focus (first | omega | (simp; done) | (simp; omega)))) | ((with_reducible refine Below.trans ?_ (Below.mono hC1 ?_)); rotate_left; (focus (first | omega | (simp; done) | (simp; omega)))) | ((with_reducible refine Below.trans ?_ (Below.mono HB ?_)); rotate_left; (focus (first | omega | (simp; done) | (simp; omega)))) | ((with_reducible refine Below.trans ?_ (Below.mono hb3 ?_)); rotate_left; (focus (first | omega | (simp; done) | (simp; omega)))) | ((with_reducible refine Below.trans ?_ (Below.mono hb2 ?_)); rotate_left; (focus (first | omega | (simp; done) | (simp; omega)))) | ((with_reducible refine Below.trans ?_ (Below.mono hB1 ?_)); rotate_left; (focus (first | omega | (simp; done) | (simp; omega)))))
      | true =>
        obtain ⟨m1, m2, m3, m4, m5⟩ := HM.out rfl
        clear HM
        dsimp only at m1 m2 m3 m4 m5
        subst m4
        rcases m2 with m2 | ⟨m2, m6⟩
        · go_wp2_with fail
          refine (ahead_impl _ _ _ _ _ _ _).mono ?_
          rw [m1]
          rintro e v4 ⟨rfl, hc4⟩
          obtain ⟨kc4, kf4, kz4, kn4⟩ := brules hc4
          go_wp2_with fail
          refine (stampOk_impl _ _ _ _).mono ?_
          rw [m5]
          rintro e v5 ⟨rfl, hc5⟩
          go_wp2_with fail
          go_ret
          refine ⟨rfl, ?_⟩
          have ks4 := hc4.size
          simp at ks4
          repeat (first | (with_reducible exact Below.refl _ _) | ((with_reducible refine Below.setCell ?_ ?_ _); rotate_left; (focus (first | omega | (simp; done) | (simp; omega)))) | ((with_reducible refine Below.alloc ?_ ?_ _); rotate_left; (focus (first | omega | (simp; done) | (simp; omega)))) | (with_reducible refine Below.drew ?_) | ((with_reducible refine Below.trans ?_ (Below.mono hc5 ?_)); rotate_left; (focus (first | omega | (simp; done) | (simp; omega)))) | ((with_reducible refine Below.trans ?_ (Below.mono hc4 ?_)); rotate_left; (focus (first | omega | (simp; done) | (simp; omega)))) | ((with_reducible refine Below.trans ?_ (Below.mono hc3 ?_)); rotate_left; (focus (first | omega | (simp; done) | (simp; omega)))) | ((with_reducible refine Below.trans ?_ (Below.mono hc2 ?_)); rotate_left; (focus (first | omega | (simp; done) | (simp; omega)))) | ((with_reducible refine Below.trans ?_ (Below.mono hC1 ?_)); rotate_left; (focus (first | omega | (simp; done) | (simp; omega)))) | ((with_reducible refine Below.trans ?_ (Below.mono HB ?_)); rotate_left; (focus (first | omega | (simp; done) | (simp; omega)))) | ((with_reducible refine Below.trans ?_ (Below.mono hb3 ?_)); rotate_left; (focus (first | omega | (simp; done) | (simp; omega)))) | ((with_reducible refine Below.trans ?_ (Below.mono hb2 ?_)); rotate_left; (focus (first | omega | (simp; done) | (simp; omega)))) | ((with_reducible refine Below.trans ?_ (Below.mono hB1 ?_)); rotate_left; (focus (first | omega | (simp; done) | (simp; omega)))))
        · subst m2
          have m7 : ¬ ma < ma := by omega
          go_wp2_with fail
          refine (ahead_impl _ _ _ _ _ _ _).mono ?_
          rw [m1]
          rintro e v4 ⟨rfl, hc4⟩
          obtain ⟨kc4, kf4, kz4, kn4⟩ := brules hc4
          go_wp2_with fail
          refine (stampOk_impl _ _ _ _).mono ?_
          rw [m5]
          rintro e v5 ⟨rfl, hc5⟩
          go_wp2_with fail
          go_ret
          refine ⟨rfl, ?_⟩
          have ks4 := hc4.size
          simp at ks4
          repeat (first | (with_reducible exact Below.refl _ _) | ((with_reducible refine Below.setCell ?_ ?_ _); rotate_left; (focus (first | omega | (simp; done) | (simp; omega)))) | ((with_reducible refine Below.alloc ?_ ?_ _); rotate_left; (focus (first | omega | (simp; done) | (simp; omega)))) | (with_reducible refine Below.drew ?_) | ((with_reducible refine Below.trans ?_ (Below.mono hc5 ?_)); rotate_left; (focus (first | omega | (simp; done) | (simp; omega)))) | ((with_reducible refine Below.trans ?_ (Below.mono hc4 ?_)); rotate_left; (focus (first | omega | (simp; done) | (simp; omega)))) | ((with_reducible refine Below.trans ?_ (Below.mono hc3 ?_)); rotate_left; (focus (first | omega | (simp; done) | (simp; omega)))) | ((with_reducible refine Below.trans ?_ (Below.mono hc2 ?_)); rotate_left; (focus (first | omega | (simp; done) | (simp; omega)))) | ((with_reducible refine Below.trans ?_ (Below.mono hC1 ?_)); rotate_left; (focus (first | omega | (simp; done) | (simp; omega)))) | ((with_reducible refine Below.trans ?_ (Below.mono HB ?_)); rotate_left; (focus (first | omega | (simp; done) | (simp; omega)))) | ((with_reducible refine Below.trans ?_ (Below.mono hb3 ?_)); rotate_left; (focus (first | omega | (simp; done) | (simp; omega)))) | ((with_reducible refine Below.trans ?_ (Below.mono hb2 ?_)); rotate_left; (focus (first | omega | (simp; done) | (simp; omega)))) | ((with_reducible refine Below.trans ?_ (Below.mono hB1 ?_)); rotate_left; (focus (first | omega | (simp; done) | (simp; omega)))))
    | true =>
      obtain ⟨p1, p2, p3, p4⟩ := HP.out rfl
      clear HP
      dsimp only at p1 p2 p3 p4
      subst p3
      go_wp2_with fail
      refine (ahead_impl _ _ _ _ _ _ _).mono ?_
      rw [p1]
      rintro e w4 ⟨rfl, hb4⟩
      obtain ⟨hc4, hf4, hz4, hn4⟩ := brules hb4
      have hs4 := hb4.size
      simp at hs4
      go_wp2_with fail
      refine (stampOk_impl _ _ _ _).mono ?_
      rw [p4]
      rintro e w5 ⟨rfl, hb5⟩
      obtain ⟨hc5, hf5, hz5, hn5⟩ := brules hb5
      have hs5 := hb5.size
      (try simp at hs5)
      have HB : Below w0.heap.size w0 w5 := by
        repeat (first | (with_reducible exact Below.refl _ _) | ((with_reducible refine Below.setCell ?_ ?_ _); rotate_left; (focus (first | omega | (simp; done) | (simp; omega)))) | ((with_reducible refine Below.alloc ?_ ?_ _); rotate_left; (focus (first | omega | (simp; done) | (simp; omega)))) | (with_reducible refine Below.drew ?_) | ((with_reducible refine Below.trans ?_ (Below.mono hb5 ?_)); rotate_left; (focus (first | omega | (simp; done) | (simp; omega)))) | ((with_reducible refine Below.trans ?_ (Below.mono hb4 ?_)); rotate_left; (focus (first | omega | (simp; done) | (simp; omega)))) | ((with_reducible refine Below.trans ?_ (Below.mono hb3 ?_)); rotate_left; (focus (first | omega | (simp; done) | (simp; omega)))) | ((with_reducible refine Below.trans ?_ (Below.mono hb2 ?_)); rotate_left; (focus (first | omega | (simp; done) | (simp; omega)))) | ((with_reducible refine Below.trans ?_ (Below.mono hB1 ?_)); rotate_left; (focus (first | omega | (simp; done) | (simp; omega)))))
      clear hc2 hf2 hz2 hn2 hc3 hf3 hz3 hn3 hc4 hf4 hz4 hn4 hc5 hf5 hz5 hn5
      go_wp2_with fail
      refine (drawMet_any _ _ _ _ (h.below (Nat.le_refl _) HB)).mono ?_
      rintro e v1 ⟨d, f, g, x, y, z, s, rfl, _, _, _, _, _, _, _, hC1⟩
      have ks1 := hC1.size
      (try simp at ks1)
      go_wp2_with fail
      refine (met_impl _ _ _ _ _ _ _ _).mono ?_
      rintro e v2 ⟨rfl, hc2⟩
      obtain ⟨kc2, kf2, kz2, kn2⟩ := brules hc2
      have ks2 := hc2.size
      simp at ks2
      have ks2a : v1.heap.size < v2.heap.size := by omega
      have ks2b : v1.heap.size + 1 < v2.heap.size := by omega
      go_wp2_with fail
      refine (met_spec _ _ _ _ _ _ _ _).mono ?_
      rintro e v3 ⟨rfl, hc3⟩
      obtain ⟨kc3, kf3, kz3, kn3⟩ := brules hc3
      have ks3 := hc3.size
      simp at ks3
      have ks3a : v1.heap.size < v3.heap.size := by omega
      have ks3b : v1.heap.size + 1 < v3.heap.size := by omega
      have ks3c : v2.heap.size < v3.heap.size := by omega
      have ks3d : v1.heap.size < v2.heap.size + 1 := by omega
      have ks3e : v1.heap.size + 1 < v2.heap.size + 1 := by omega
      have HM : Hid ((M1.metP d f g x y z s).ok = true → M1.aheadB d f g (M1.metP d f g x y z s).a (M1.metP d f g x y z s).b (M1.metP d f g x y z s).c = true ∧ (x < (M1.metP d f g x y z s).a ∨ ((M1.metP d f g x y z s).a = x ∧ y < (M1.metP d f g x y z s).b)) ∧ s ≤ (M1.metP d f g x y z s).a ∧ (M1.metP d f g x y z s).c = g ∧ M1.stOk (M1.metP d f g x y z s).a (M1.metP d f g x y z s).b (M1.metP d f g x y z s).c = true) := M1.met_props
      generalize M1.metP d f g x y z s = M at *
      obtain ⟨ma, mb, mc, mk⟩ := M
      cases mk with
      | false =>
        clear HM
        go_wp2_with fail
        go_ret
        refine ⟨rfl, ?_⟩
        repeat (first | (with_reducible exact Below.refl _ _) | ((with_reducible refine Below.setCell ?_ ?_ _); rotate_left; (focus (first | omega | (simp; done) | (simp; omega)))) | ((with_reducible refine Below.alloc ?_ ?_ _); rotate_left; (focus (first | omega | (simp; done) | (simp; omega)))) | (with_reducible refine Below.drew ?_) | ((with_reducible refine Below.trans ?_ (Below.mono hc3 ?_)); rotate_left; (focus (first | omega | (simp; done) | (simp; omega)))) | ((with_reducible refine Below.trans ?_ (Below.mono hc2 ?_)); rotate_left; (focus (first | omega | (simp; done) | (simp; omega)))) | ((with_reducible refine Below.trans ?_ (Below.mono hC1 ?_)); rotate_left; (focus (first | omega | (simp; done) | (simp; omega)))) | ((with_reducible refine Below.trans ?_ (Below.mono HB ?_)); rotate_left; (focus (first | omega | (simp; done) | (simp; omega)))) | ((with_reducible refine Below.trans ?_ (Below.mono hb3 ?_)); rotate_left; (focus (first | omega | (simp; done) | (simp; omega)))) | ((with_reducible refine Below.trans ?_ (Below.mono hb2 ?_)); rotate_left; (focus (first | omega | (simp; done) | (simp; omega)))) | ((with_reducible refine Below.trans ?_ (Below.mono hB1 ?_)); rotate_left; (focus (first | omega | (simp; done) | (simp; omega)))))
      | true =>
        obtain ⟨m1, m2, m3, m4, m5⟩ := HM.out rfl
        clear HM
        dsimp only at m1 m2 m3 m4 m5
        subst m4
        rcases m2 with m2 | ⟨m2, m6⟩
        · go_wp2_with fail
          refine (ahead_impl _ _ _ _ _ _ _).mono ?_
          rw [m1]
          rintro e v4 ⟨rfl, hc4⟩
          obtain ⟨kc4, kf4, kz4, kn4⟩ := brules hc4
          go_wp2_with fail
          refine (stampOk_impl _ _ _ _).mono ?_
          rw [m5]
          rintro e v5 ⟨rfl, hc5⟩
          go_wp2_with fail
          go_ret
          refine ⟨rfl, ?_⟩
          have ks4 := hc4.size
          simp at ks4
          repeat (first | (with_reducible exact Below.refl _ _) | ((with_reducible refine Below.setCell ?_ ?_ _); rotate_left; (focus (first | omega | (simp; done) | (simp; omega)))) | ((with_reducible refine Below.alloc ?_ ?_ _); rotate_left; (focus (first | omega | (simp; done) | (simp; omega)))) | (with_reducible refine Below.drew ?_) | ((with_reducible refine Below.trans ?_ (Below.mono hc5 ?_)); rotate_left; (focus (first | omega | (simp; done) | (simp; omega)))) | ((with_reducible refine Below.trans ?_ (Below.mono hc4 ?_)); rotate_left; (focus (first | omega | (simp; done) | (simp; omega)))) | ((with_reducible refine Below.trans ?_ (Below.mono hc3 ?_)); rotate_left; (focus (first | omega | (simp; done) | (simp; omega)))) | ((with_reducible refine Below.trans ?_ (Below.mono hc2 ?_)); rotate_left; (focus (first | omega | (simp; done) | (simp; omega)))) | ((with_reducible refine Below.trans ?_ (Below.mono hC1 ?_)); rotate_left; (focus (first | omega | (simp; done) | (simp; omega)))) | ((with_reducible refine Below.trans ?_ (Below.mono HB ?_)); rotate_left; (focus (first | omega | (simp; done) | (simp; omega)))) | ((with_reducible refine Below.trans ?_ (Below.mono hb3 ?_)); rotate_left; (focus (first | omega | (simp; done) | (simp; omega)))) | ((with_reducible refine Below.trans ?_ (Below.mono hb2 ?_)); rotate_left; (focus (first | omega | (simp; done) | (simp; omega)))) | ((with_reducible refine Below.trans ?_ (Below.mono hB1 ?_)); rotate_left; (focus (first | omega | (simp; done) | (simp; omega)))))
        · subst m2
          have m7 : ¬ ma < ma := by omega
          go_wp2_with fail
          refine (ahead_impl _ _ _ _ _ _ _).mono ?_
          rw [m1]
          rintro e v4 ⟨rfl, hc4⟩
          obtain ⟨kc4, kf4, kz4, kn4⟩ := brules hc4
          go_wp2_with fail
          refine (stampOk_impl _ _ _ _).mono ?_
          rw [m5]
          rintro e v5 ⟨rfl, hc5⟩
          go_wp2_with fail
          go_ret
          refine ⟨rfl, ?_⟩
          have ks4 := hc4.size
          simp at ks4
          repeat (first | (with_reducible exact Below.refl _ _) | ((with_reducible refine Below.setCell ?_ ?_ _); rotate_left; (focus (first | omega | (simp; done) | (simp; omega)))) | ((with_reducible refine Below.alloc ?_ ?_ _); rotate_left; (focus (first | omega | (simp; done) | (simp; omega)))) | (with_reducible refine Below.drew ?_) | ((with_reducible refine Below.trans ?_ (Below.mono hc5 ?_)); rotate_left; (focus (first | omega | (simp; done) | (simp; omega)))) | ((with_reducible refine Below.trans ?_ (Below.mono hc4 ?_)); rotate_left; (focus (first | omega | (simp; done) | (simp; omega)))) | ((with_reducible refine Below.trans ?_ (Below.mono hc3 ?_)); rotate_left; (focus (first | omega | (simp; done) | (simp; omega)))) | ((with_reducible refine Below.trans ?_ (Below.mono hc2 ?_)); rotate_left; (focus (first | omega | (simp; done) | (simp; omega)))) | ((with_reducible refine Below.trans ?_ (Below.mono hC1 ?_)); rotate_left; (focus (first | omega | (simp; done) | (simp; omega)))) | ((with_reducible refine Below.trans ?_ (Below.mono HB ?_)); rotate_left; (focus (first | omega | (simp; done) | (simp; omega)))) | ((with_reducible refine Below.trans ?_ (Below.mono hb3 ?_)); rotate_left; (focus (first | omega | (simp; done) | (simp; omega)))) | ((with_reducible refine Below.trans ?_ (Below.mono hb2 ?_)); rotate_left; (focus (first | omega | (simp; done) | (simp; omega)))) | ((with_reducible refine Below.trans ?_ (Below.mono hB1 ?_)); rotate_left; (focus (first | omega | (simp; done) | (simp; omega)))))

theorem own : ownKnob Try.prog.godebug = none := by kernel_rfl
theorem laidOut : laidOutB Try.prog = true := by kernel_rfl
set_option maxRecDepth 100000 in
theorem lifted (os : Os) (started : os.Started) (H : Type) (enc : TypeId × Value → H) :
    ReturnsInHanded {} Try.checked os 4 .any (Rows.fnTickedSpec.pre6 enc Try.prog Try.f4 Rows.fnTickedRow.domain false) (Rows.fnTickedSpec.post enc Try.prog Try.f4 false true false false) := by
  refine returnsInHanded_of_change (C := Try.checked) own started (by kernel_rfl) Try.func4
    (ChangeSpec.witness6 (enc := enc) (C := Try.checked) false ⟨#[], #[.slice none 0 0], []⟩ 8 (by kernel_rfl) (by kernel_rfl) (by kernel_rfl) (by kernel_rfl)) ?_
  intro W base args ds gs before hval0 hW hcnd _
  have hval : ∀ (j : Nat) t v, Try.f4.params[j]? = some t → args[j]? = some v → Value.okWide Try.prog W .any base t v := hval0
  have hW' := hW
  obtain ⟨p, q, hA0, hV, rfl, hfz, hnd⟩ := hW
  have hA : DataW.TrodAll enc Try.prog W 0 (fun _ => true) true Try.f4.params.toList args.toList ds p := hA0
  rw [Try.params4] at hA hval
  obtain ⟨v0, vs0, d0, ds0, p0, q0, hargs, rfl, rfl, h0, r0⟩ := trodAll_cons hA
  obtain ⟨rfl, rfl, rfl⟩ := trodAll_nil r0
  obtain rfl : args = #[v0] := by cases args; simp_all
  obtain ⟨rfl, rfl⟩ := trodVars_none hV
  have k0 := h0
  have lt0 : ∀ x ∈ p0, x.block < W.heap.size := by obtain ⟨m, hm⟩ := k0; exact DataW.trod_lt m _ _ _ hm
  obtain ⟨a0, l0, c0, rfl⟩ := okWide_slice Try.underlying22 (hval 0 22 v0 rfl rfl)
  obtain ⟨fu0, hf0⟩ := h0
  have by0 := open_bytes hf0
  clear hA0 hval0
  refine (walk a0 l0 c0 W by0).mono fun e W' ⟨he, bel⟩ => ?_
  subst he
  exact ⟨_, rfl, _, _, _, [], _, [], hW', trodAll_mk1 (shut_bool Try.underlying4 _), (trodAll_cons_mk (Below.trod laidOut (by kernel_rfl) (of_decide_eq_true (by kernel_rfl)) k0 bel lt0) trodAll_mk0), rfl, bel.frame _, fun h => by cases h⟩

theorem over : Rows.fnTickedRow.holds Try.pinned (OpenSpec.ofChange Rows.fnTickedSpec) :=
  OpenClaim.holds_of_wide 4 Try.f4 rfl rfl rfl rfl rfl rfl rfl ⟨rfl, rfl, rfl, rfl, rfl⟩ rfl rfl rfl rfl rfl (by kernel_rfl) Try.func4 (by kernel_rfl)
    (of_decide_eq_true (by kernel_rfl)) (by unfold Func.isWrapper; first | (rw [if_pos (by decide +kernel)]; kernel_rfl) | (rw [if_neg (by decide +kernel)]; exact ⟨rfl, rfl⟩))
    (fun os started H enc _ => lifted os started H enc)

theorem proved : Rows.FnTickedSaid := over
end Go.Proofs.Ytmldlpmjdfomfaa.fnTicked
namespace Go.Proofs.Ytmldlpmjdfomfaa
theorem fnTicked_holds : Rows.FnTickedSaid := fnTicked.proved
end Go.Proofs.Ytmldlpmjdfomfaa
