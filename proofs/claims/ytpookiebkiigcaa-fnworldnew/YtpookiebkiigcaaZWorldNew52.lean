/-
  For every slice of bytes the law FnWorldNew answers true: a new world of a drawn number of regions is right, its regions have nothing, and there are as many as were asked for; the argument reads as it did. No condition.
-/
import Derived.Test.YtpookiebkiigcaaZWorldNew49
import Derived.Test.YtpookiebkiigcaaZWorldNew50
import Derived.Test.YtpookiebkiigcaaZWorldNew51
import Derived.Deep.DeepCutAuto
import Derived.ShutString
import Derived.ChangeOld
namespace Go.Proofs.Ytpookiebkiigcaa.fnWorldNew
open Go.ChangeShapes Go.WideShapes Go.ChangeAt Go.RowKit
set_option linter.unusedVariables false
set_option linter.unusedSimpArgs false

theorem drawWorldNew_any (av : Option Addr) (len cap : Nat) (w : World) (h : IsBytes w av len cap) :
    Calls Try.prog 9 #[.slice av len cap] w fun e w' => ∃ x : Int, e = .returned (.int .i64 x) ∧ Below w.heap.size w w' := by
  go_enter Try.func9, Try.ntmps9
  go_wp2_with fail
  refine (l1Open_any _ _ _ _ h).mono ?_
  rintro e w1 ⟨rfl, hR1, hb1⟩
  go_wp2_with fail
  refine (off_any _ _ _ _ _ _ _ hR1 (by omega) (by omega) (by omega)).mono ?_
  rintro e w2 ⟨x, rfl, x0, x1, hR2, hG2⟩
  go_wp2_with fail
  go_ret
  exact ⟨x, rfl, hb1.trans (gr_to hG2 hb1.size (by omega))⟩

set_option maxHeartbeats 8000000 in
set_option maxRecDepth 100000 in
theorem walk (av : Option Addr) (len cap : Nat) (w : World) (h : IsBytes w av len cap) :
    Calls Try.prog 3 #[.slice av len cap] w fun e w' => e = .returned (.bool true) ∧ Below w.heap.size w w' := by
  by_cases hl : (1048576 : Int) < (len : Int)
  · go_enter Try.func3, Try.ntmps3
    go_wp2_with fail
    refine (big_any _ _ _ _ h.hc h.hm).mono ?_
    rw [decide_eq_true hl]
    rintro e w0 ⟨rfl, rfl⟩
    go_wp2_with fail
    go_ret
    exact ⟨rfl, Below.refl _ _⟩
  · go_enter Try.func3, Try.ntmps3
    go_wp2_with fail
    refine (big_any _ _ _ _ h.hc h.hm).mono ?_
    rw [decide_eq_false (by omega : ¬ (1048576 : Int) < (len : Int))]
    rintro e w0 ⟨rfl, rfl⟩
    go_wp2_with fail
    refine (drawWorldNew_any _ _ _ _ h).mono ?_
    rintro e w1 ⟨r, rfl, B1⟩
    obtain ⟨y, hy⟩ : ∃ y : Bool, Hid (M1.inB r 2 5 = y) := ⟨_, rfl⟩
    obtain ⟨N, hN⟩ : ∃ N : Nat, Hid ((if M1.inB r 2 5 = true then r.toNat else 0) = N) := ⟨_, rfl⟩
    go_wp2_with fail
    refine (worldNew_impl _ _).mono ?_
    rintro e w2 ⟨bv, n, c, rfl, hn, m2, hb2⟩
    rw [hN.out] at hn
    subst hn
    rw [hy.out]
    have hs2 := hb2.size
    have B2 := B1.trans (hb2.mono B1.size)
    clear B1 hb2
    go_wp2_with fail
    obtain ⟨W3, hW3⟩ : ∃ W, W = (w2.alloc (.cells #[.int .i64 0, .slice bv n c, .slice none 0 0] 28)) := ⟨_, rfl⟩
    have bb3 : Below w2.heap.size w2 W3 := by rw [hW3]; exact (Below.refl _ _).alloc (Nat.le_refl _) _
    have hz3 : W3.heap.size = w2.heap.size + 1 := by rw [hW3]; simp
    have rw3 : RowAt W3 w2.heap.size 3 (fun o => (#[.int .i64 0, .slice bv n c, .slice none 0 0] : Array Value).getD o undef) := by rw [hW3]; exact RowAt.new w2 _ _
    rw [← hW3]
    clear hW3
    have m3 := m2.below bb3
    have B3 := B2.trans (bb3.mono B2.size)
    clear m2 B2 bb3
    refine (worldNew_spec _ _).mono ?_
    rintro e w4 ⟨dv, n', d, rfl, hn, k4, hb4⟩
    rw [hN.out] at hn
    subst hn
    rw [hy.out]
    have m4 := m3.below hb4
    have p4 := rw3.below hb4
    have hs4 := hb4.size
    have B4 := B3.trans (hb4.mono B3.size)
    clear m3 rw3 B3 hb4
    have c0 := p4.cell (o := 0) (by omega)
    have c1 := p4.cell (o := 1) (by omega)
    have c2 := p4.cell (o := 2) (by omega)
    simp at c0 c1 c2
    have cl := p4.lt
    cases y with
    | false =>
      go_wp2_with fail
      clear c0 c1 c2 cl
      obtain ⟨W5, hW5⟩ : ∃ W, W = (w4.alloc (.cells #[.int .i64 0, .slice dv n' d, .slice none 0 0] 28)) := ⟨_, rfl⟩
      have bb5 : Below w4.heap.size w4 W5 := by rw [hW5]; exact (Below.refl _ _).alloc (Nat.le_refl _) _
      have hz5 : W5.heap.size = w4.heap.size + 1 := by rw [hW5]; simp
      have rw5 : RowAt W5 w4.heap.size 3 (fun o => (#[.int .i64 0, .slice dv n' d, .slice none 0 0] : Array Value).getD o undef) := by rw [hW5]; exact RowAt.new w4 _ _
      rw [← hW5]
      clear hW5
      have m5 := m4.below bb5
      have k5 := k4.below bb5
      have B5 := B4.trans (bb5.mono B4.size)
      refine (sameWorld_new _ _ _ _ _ _ _ _ _ _ m5 k5).mono ?_
      rintro e w6 ⟨rfl, hb6⟩
      have B6 := B5.trans (hb6.mono B5.size)
      go_wp2_with fail
      go_ret
      exact ⟨rfl, B6⟩
    | true =>
      have hr := M1.inB_true hy.out
      obtain ⟨HR1, HR2, HR3⟩ : Hid ((n' : Int) = r) ∧ 2 ≤ n' ∧ n' ≤ 5 := by
        have q := hN.out
        rw [if_pos hy.out] at q
        refine ⟨(by omega : (n' : Int) = r), by omega, by omega⟩
      clear hr
      go_wp2_with fail
      clear c0 c1 c2 cl
      obtain ⟨W5, hW5⟩ : ∃ W, W = (w4.alloc (.cells #[.int .i64 0, .slice dv n' d, .slice none 0 0] 28)) := ⟨_, rfl⟩
      have bb5 : Below w4.heap.size w4 W5 := by rw [hW5]; exact (Below.refl _ _).alloc (Nat.le_refl _) _
      have hz5 : W5.heap.size = w4.heap.size + 1 := by rw [hW5]; simp
      have rw5 : RowAt W5 w4.heap.size 3 (fun o => (#[.int .i64 0, .slice dv n' d, .slice none 0 0] : Array Value).getD o undef) := by rw [hW5]; exact RowAt.new w4 _ _
      rw [← hW5]
      clear hW5
      have m5 := m4.below bb5
      have k5 := k4.below bb5
      have p5 := p4.below bb5
      have B5 := B4.trans (bb5.mono B4.size)
      clear m4 k4 p4 B4 bb5
      refine (sameWorld_new _ _ _ _ _ _ _ _ _ _ m5 k5).mono ?_
      rintro e w6 ⟨rfl, hb6⟩
      have m6 := m5.below hb6
      have p6 := p5.below hb6
      have hs6 := hb6.size
      have B6 := B5.trans (hb6.mono B5.size)
      clear m5 k5 p5 B5 hb6 rw5
      have c0 := p6.cell (o := 0) (by omega)
      have c1 := p6.cell (o := 1) (by omega)
      have c2 := p6.cell (o := 2) (by omega)
      simp at c0 c1 c2
      have cl := p6.lt
      go_wp2_with fail
      clear c0 c1 c2 cl
      refine (worldOk_new _ _ _ _ _ _ m6 HR2 HR3).mono ?_
      rintro e w7 ⟨rfl, hb7⟩
      have m7 := m6.below hb7
      have p7 := p6.below hb7
      have hs7 := hb7.size
      have B7 := B6.trans (hb7.mono B6.size)
      clear m6 p6 B6 hb7
      have c0 := p7.cell (o := 0) (by omega)
      have c1 := p7.cell (o := 1) (by omega)
      have c2 := p7.cell (o := 2) (by omega)
      simp at c0 c1 c2
      have cl := p7.lt
      go_wp2_with fail
      clear c0 c1 c2 cl
      refine (union_new _ _ _ _ _ _ m7 HR3).mono ?_
      rintro e w8 ⟨⟨a8, k8, rfl, hk8⟩, hb8⟩
      have m8 := m7.below hb8
      have p8 := p7.below hb8
      have hs8 := hb8.size
      have B8 := B7.trans (hb8.mono B7.size)
      have hm1 := m8.1
      have hm2 := m8.2.1
      unfold maxLen at hm2 hk8
      clear m7 p7 B7 hb8
      have c0 := p8.cell (o := 0) (by omega)
      have c1 := p8.cell (o := 1) (by omega)
      have c2 := p8.cell (o := 2) (by omega)
      simp at c0 c1 c2
      have cl := p8.lt
      have hrr : ((n' : Int) == r) = true := by rw [HR1.out]; simp
      go_wp2_with fail
      go_ret
      exact ⟨by first | rfl | (simp; done) | (simp [hrr]; done) | (simp; exact HR1.out), B8⟩

theorem own : ownKnob Try.prog.godebug = none := by kernel_rfl
theorem laidOut : laidOutB Try.prog = true := by kernel_rfl
set_option maxRecDepth 100000 in
theorem lifted (os : Os) (started : os.Started) (H : Type) (enc : TypeId × Value → H) :
    ReturnsInHanded {} Try.checked os 3 .any (Rows.fnWorldNewSpec.pre6 enc Try.prog Try.f3 Rows.fnWorldNewRow.domain false) (Rows.fnWorldNewSpec.post enc Try.prog Try.f3 false true false false) := by
  refine returnsInHanded_of_change (C := Try.checked) own started (by kernel_rfl) Try.func3
    (ChangeSpec.witness6 (enc := enc) (C := Try.checked) false ⟨#[], #[.slice none 0 0], []⟩ 8 (by kernel_rfl) (by kernel_rfl) (by kernel_rfl) (by kernel_rfl)) ?_
  intro W base args ds gs before hval0 hW hcnd _
  have hval : ∀ (j : Nat) t v, Try.f3.params[j]? = some t → args[j]? = some v → Value.okWide Try.prog W .any base t v := hval0
  have hW' := hW
  obtain ⟨p, q, hA0, hV, rfl, hfz, hnd⟩ := hW
  have hA : DataW.TrodAll enc Try.prog W 0 (fun _ => true) true Try.f3.params.toList args.toList ds p := hA0
  rw [Try.params3] at hA hval
  obtain ⟨v0, vs0, d0, ds0, p0, q0, hargs, rfl, rfl, h0, r0⟩ := trodAll_cons hA
  obtain ⟨rfl, rfl, rfl⟩ := trodAll_nil r0
  obtain rfl : args = #[v0] := by cases args; simp_all
  obtain ⟨rfl, rfl⟩ := trodVars_none hV
  have k0 := h0
  have lt0 : ∀ x ∈ p0, x.block < W.heap.size := by obtain ⟨m, hm⟩ := k0; exact DataW.trod_lt m _ _ _ hm
  obtain ⟨a0, l0, c0, rfl⟩ := okWide_slice Try.underlying22 (hval 0 22 v0 rfl rfl)
  obtain ⟨fu0, hf0⟩ := h0
  have by0 := open_bytes hf0
  clear hA0 hval0
  refine (walk a0 l0 c0 W by0).mono fun e W' ⟨he, bel⟩ => ?_
  subst he
  exact ⟨_, rfl, _, _, _, [], _, [], hW', trodAll_mk1 (shut_bool Try.underlying4 _), (trodAll_cons_mk (Below.trod laidOut (by kernel_rfl) (of_decide_eq_true (by kernel_rfl)) k0 bel lt0) trodAll_mk0), rfl, bel.frame _, fun h => by cases h⟩

theorem over : Rows.fnWorldNewRow.holds Try.pinned (OpenSpec.ofChange Rows.fnWorldNewSpec) :=
  OpenClaim.holds_of_wide 3 Try.f3 rfl rfl rfl rfl rfl rfl rfl ⟨rfl, rfl, rfl, rfl, rfl⟩ rfl rfl rfl rfl rfl (by kernel_rfl) Try.func3 (by kernel_rfl)
    (of_decide_eq_true (by kernel_rfl)) (by unfold Func.isWrapper; first | (rw [if_pos (by decide +kernel)]; kernel_rfl) | (rw [if_neg (by decide +kernel)]; exact ⟨rfl, rfl⟩))
    (fun os started H enc _ => lifted os started H enc)

theorem proved : Rows.FnWorldNewSaid := over
end Go.Proofs.Ytpookiebkiigcaa.fnWorldNew
namespace Go.Proofs.Ytpookiebkiigcaa
theorem fnWorldNew_holds : Rows.FnWorldNewSaid := fnWorldNew.proved
end Go.Proofs.Ytpookiebkiigcaa
