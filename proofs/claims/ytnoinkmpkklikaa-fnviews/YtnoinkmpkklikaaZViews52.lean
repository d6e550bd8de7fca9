/-
  For every slice of bytes the law FnViews answers true: what is seen of a trace in two drawn sets joined is the more lively and the more kept of both; the argument reads as it did. No condition.
-/
import Derived.Test.YtnoinkmpkklikaaZViews32
import Derived.Test.YtnoinkmpkklikaaZViews34
import Derived.Test.YtnoinkmpkklikaaZViews45
import Derived.Test.YtnoinkmpkklikaaZViews47
import Derived.Test.YtnoinkmpkklikaaZViews51
import Derived.ShutString
import Derived.ChangeOld
namespace M1
theorem ofT_mem {kd tr : Int} {us : List Upd} {x : Upd} : ∀ {k : Nat}, x ∈ ofT kd tr us k ↔ ∃ j, j < k ∧ x = up us j ∧ x.k = kd ∧ x.tr = tr
  | 0 => by simp [ofT]
  | k + 1 => by
    have ih := ofT_mem (kd := kd) (tr := tr) (us := us) (x := x) (k := k)
    by_cases c : (up us k).k = kd ∧ (up us k).tr = tr
    · rw [ofT_yes c, List.mem_append, ih]
      constructor
      · intro h
        rcases h with ⟨j, hj, q⟩ | h
        · exact ⟨j, by omega, q⟩
        · simp at h; subst h; exact ⟨k, by omega, rfl, c⟩
      · rintro ⟨j, hj, e, q⟩
        by_cases ek : j = k
        · subst ek; right; simp [e]
        · exact Or.inl ⟨j, by omega, e, q⟩
    · rw [ofT_no c, ih]
      constructor
      · rintro ⟨j, hj, q⟩; exact ⟨j, by omega, q⟩
      · rintro ⟨j, hj, e, q⟩
        by_cases ek : j = k
        · subst ek; subst e; exact absurd q c
        · exact ⟨j, by omega, e, q⟩
theorem ofT_all {kd tr : Int} {us : List Upd} {x : Upd} : x ∈ ofT kd tr us us.length ↔ x ∈ us ∧ x.k = kd ∧ x.tr = tr := by
  rw [ofT_mem]
  constructor
  · rintro ⟨j, hj, e, q⟩; subst e; exact ⟨up_mem hj, q⟩
  · rintro ⟨h, q⟩
    obtain ⟨j, hj, e⟩ := mem_up h
    exact ⟨j, hj, e.symm, q⟩
theorem lvl_key : ∀ (l : List Upd) (m : Int), m ≤ l.foldl (fun m u => max m u.lv) m ∧ (∀ x, x ∈ l → x.lv ≤ l.foldl (fun m u => max m u.lv) m) ∧ (l.foldl (fun m u => max m u.lv) m = m ∨ ∃ x, x ∈ l ∧ x.lv = l.foldl (fun m u => max m u.lv) m)
  | [], m => ⟨Int.le_refl _, fun x hx => (by cases hx), Or.inl rfl⟩
  | u :: l, m => by
    obtain ⟨h1, h2, h3⟩ := lvl_key l (max m u.lv)
    simp only [List.foldl_cons]
    refine ⟨by omega, fun x hx => ?_, ?_⟩
    · rcases List.mem_cons.1 hx with e | e
      · subst e; omega
      · exact h2 x e
    · rcases h3 with e | ⟨x, hx, e⟩
      · by_cases c : m < u.lv
        · exact Or.inr ⟨u, by simp, by rw [e]; omega⟩
        · exact Or.inl (by rw [e]; omega)
      · exact Or.inr ⟨x, by simp [hx], e⟩
theorem lvl_ge {l : List Upd} {x : Upd} (h : x ∈ l) : x.lv ≤ lvl l := (lvl_key l 0).2.1 x h
theorem lvl_at (l : List Upd) : lvl l = 0 ∨ ∃ x, x ∈ l ∧ x.lv = lvl l := (lvl_key l 0).2.2
theorem lvl_join {a b j : List Upd} (h : ∀ x, x ∈ j ↔ x ∈ a ∨ x ∈ b) : lvl j = max (lvl a) (lvl b) := by
  have n1 := (lvl_key a 0).1
  have n2 := (lvl_key b 0).1
  have n3 := (lvl_key j 0).1
  have m1 : 0 ≤ lvl a := n1
  have m2 : 0 ≤ lvl b := n2
  have m3 : 0 ≤ lvl j := n3
  refine Int.le_antisymm ?_ ?_
  · rcases lvl_at j with e | ⟨x, hx, e⟩
    · omega
    · rcases (h x).1 hx with q | q
      · have := lvl_ge q; omega
      · have := lvl_ge q; omega
  · have a1 : lvl a ≤ lvl j := by
      rcases lvl_at a with e | ⟨x, hx, e⟩
      · omega
      · have := lvl_ge ((h x).2 (Or.inl hx)); omega
    have a2 : lvl b ≤ lvl j := by
      rcases lvl_at b with e | ⟨x, hx, e⟩
      · omega
      · have := lvl_ge ((h x).2 (Or.inr hx)); omega
    omega
theorem ofT_join {kd tr : Int} {a b j : List Upd} (h : ∀ x, x ∈ j ↔ x ∈ a ∨ x ∈ b) : ∀ x, x ∈ ofT kd tr j j.length ↔ x ∈ ofT kd tr a a.length ∨ x ∈ ofT kd tr b b.length := fun x => by
  rw [ofT_all, ofT_all, ofT_all, h]
  constructor
  · rintro ⟨q | q, e⟩
    · exact Or.inl ⟨q, e⟩
    · exact Or.inr ⟨q, e⟩
  · rintro (⟨q, e⟩ | ⟨q, e⟩)
    · exact ⟨Or.inl q, e⟩
    · exact ⟨Or.inr q, e⟩
theorem views {xs ys : List Upd} (h : jOk xs ys = true) (tr : Int) : levelOf (jL xs ys) tr = max (levelOf xs tr) (levelOf ys tr) ∧ keptB (jL xs ys) tr = (keptB xs tr || keptB ys tr) ∧ visB (jL xs ys) tr = evenB (max (levelOf xs tr) (levelOf ys tr)) ∧ 0 ≤ levelOf xs tr ∧ 0 ≤ levelOf ys tr := by
  obtain ⟨h1, h2, h3⟩ := jL_ok h
  have hm := jL_mem h
  have e1 := lvl_join (ofT_join (kd := 3) (tr := tr) hm)
  have e2 := ofT_join (kd := 2) (tr := tr) hm
  have l1 : levelOf xs tr = lvl (ofT 3 tr xs xs.length) := by unfold levelOf; rw [if_pos h1]
  have l2 : levelOf ys tr = lvl (ofT 3 tr ys ys.length) := by unfold levelOf; rw [if_pos h2]
  have l3 : levelOf (jL xs ys) tr = lvl (ofT 3 tr (jL xs ys) (jL xs ys).length) := by unfold levelOf; rw [if_pos h3]
  refine ⟨by rw [l1, l2, l3, e1], ?_, ?_, by rw [l1]; exact lvl_nonneg _, by rw [l2]; exact lvl_nonneg _⟩
  · unfold keptB
    rw [h1, h2, h3]
    simp only [Bool.true_and]
    have emp : ∀ l : List Upd, (!l.isEmpty) = true ↔ ∃ x, x ∈ l := fun l => by
      cases l with
      | nil => simp
      | cons a l => simp
    rw [Bool.eq_iff_iff, emp, Bool.or_eq_true, emp, emp]
    constructor
    · rintro ⟨x, hx⟩
      rcases (e2 x).1 hx with q | q
      · exact Or.inl ⟨x, q⟩
      · exact Or.inr ⟨x, q⟩
    · rintro (⟨x, hx⟩ | ⟨x, hx⟩)
      · exact ⟨x, (e2 x).2 (Or.inl hx)⟩
      · exact ⟨x, (e2 x).2 (Or.inr hx)⟩
  · unfold visB
    rw [h3, Bool.true_and, e1, l1, l2]
end M1
namespace Go.Proofs.Ytnoinkmpkklikaa.fnViews
open Go.ChangeShapes Go.WideShapes Go.ChangeAt Go.RowKit
set_option linter.unusedVariables false
set_option linter.unusedSimpArgs false

set_option maxHeartbeats 40000000 in
set_option maxRecDepth 100000 in
theorem walk (av : Option Addr) (len cap : Nat) (w : World) (h : IsBytes w av len cap) :
    Calls Try.prog 5 #[.slice av len cap] w fun e w' => e = .returned (.bool true) ∧ Below w.heap.size w w' := by
  by_cases hl : (1048576 : Int) < (len : Int)
  · go_enter Try.func5, Try.ntmps5
    go_wp2_with fail
    refine (big_any _ _ _ _ h.hc h.hm).mono ?_
    rw [decide_eq_true hl]
    rintro e w0 ⟨rfl, rfl⟩
    go_wp2_with fail
    go_ret
    exact ⟨rfl, Below.refl _ _⟩
  · go_enter Try.func5, Try.ntmps5
    go_wp2_with fail
    refine (big_any _ _ _ _ h.hc h.hm).mono ?_
    rw [decide_eq_false (by omega : ¬ (1048576 : Int) < (len : Int))]
    rintro e w0 ⟨rfl, rfl⟩
    go_wp2_with fail
    refine (drawJoined_any _ _ _ _ h).mono ?_
    rintro e w1 ⟨bv, c, us, dv, dc, vs, rfl, hn, hm, hsh, hsv, u1, v1, B1⟩
    obtain ⟨n, hne⟩ : ∃ n, Hid (us.length = n) := ⟨_, rfl⟩
    obtain ⟨m, hme⟩ : ∃ m, Hid (vs.length = m) := ⟨_, rfl⟩
    rw [hne.out] at u1 hn ⊢
    rw [hme.out] at v1 hm ⊢
    obtain ⟨J, hJ⟩ : ∃ J, Hid (M1.jL us vs = J) := ⟨_, rfl⟩
    obtain ⟨ok, hok⟩ : ∃ b, Hid (M1.jOk us vs = b) := ⟨_, rfl⟩
    go_wp2_with fail
    have c2 := joined_impl _ _ _ _ _ _ _ _ _ u1 v1
    rw [hJ.out, hok.out] at c2
    refine c2.mono ?_
    clear c2
    rintro e w2 ⟨⟨aJ, cJ, rfl, J2⟩, hb2⟩
    have u2 := u1.below hb2
    have v2 := v1.below hb2
    have B2 := B1.trans (hb2.mono B1.size)
    clear u1 v1 hb2 B1
    go_wp2_with fail
    have c3 := joined_spec _ _ _ _ _ _ _ _ _ u2 v2
    rw [hJ.out, hok.out] at c3
    refine c3.mono ?_
    clear c3
    rintro e w3 ⟨⟨aW, cW, rfl, X3⟩, hb3⟩
    have u3 := u2.below hb3
    have v3 := v2.below hb3
    have J3 := J2.below hb3
    have B3 := B2.trans (hb3.mono B2.size)
    clear u2 v2 J2 X3 hb3 B2
    cases ok with
    | false =>
      go_wp2_with fail
      go_ret
      exact ⟨rfl, B3⟩
    | true =>
      have hJs : ∀ i, i < J.length → (M1.up J i).s.size ≤ maxLen := fun i hi => by
        have hx : M1.up J i ∈ us ∨ M1.up J i ∈ vs := by
          refine (M1.jL_mem hok.out _).1 ?_
          rw [hJ.out]; exact M1.up_mem hi
        have : (M1.up J i).s.size ≤ 1000 := hx.elim (hsh _) (hsv _)
        unfold maxLen; omega
      have uJ := J3.upds rfl hJs
      clear hJs J3
      have HV : Hid (∀ t, M1.levelOf J t = max (M1.levelOf us t) (M1.levelOf vs t) ∧ M1.keptB J t = (M1.keptB us t || M1.keptB vs t) ∧ M1.visB J t = M1.evenB (max (M1.levelOf us t) (M1.levelOf vs t)) ∧ 0 ≤ M1.levelOf us t ∧ 0 ≤ M1.levelOf vs t) := fun t => by
        have := M1.views hok.out t
        rw [hJ.out] at this
        exact this
      obtain ⟨q, hq⟩ : ∃ q, Hid (J.length = q) := ⟨_, rfl⟩
      rw [hq.out] at uJ ⊢
      go_wp2_with fail
      go_loopw [9] (fun i wr => ∃ k : Nat, 1 ≤ k ∧ k ≤ 4 ∧ i = .int .i64 k ∧ Below w3.heap.size w3 wr) (fun i _ => 4 - (intOf i).toNat)
      case atStart => exact ⟨1, by omega, by omega, rfl, Below.refl _ _⟩
      case round =>
        obtain ⟨k, hk1, hk, rfl, hB⟩ := hrel
        by_cases hlt : k ≤ 3
        · have g1 := u3.below hB
          have g2 := v3.below hB
          have g3 := uJ.below hB
          obtain ⟨E1, E2, E3, E4, E5⟩ := HV.out (k : Int)
          obtain ⟨lx, hx⟩ : ∃ l, Hid (M1.levelOf us (k : Int) = l) := ⟨_, rfl⟩
          obtain ⟨ly, hy⟩ : ∃ l, Hid (M1.levelOf vs (k : Int) = l) := ⟨_, rfl⟩
          obtain ⟨kx, hkx⟩ : ∃ b, Hid (M1.keptB us (k : Int) = b) := ⟨_, rfl⟩
          obtain ⟨ky, hky⟩ : ∃ b, Hid (M1.keptB vs (k : Int) = b) := ⟨_, rfl⟩
          rw [hx.out, hy.out] at E1 E3
          rw [hkx.out, hky.out] at E2
          have hnn : 0 ≤ max lx ly := by
            rw [hx.out] at E4
            omega
          unfold M1.evenB at E3
          rw [← Int.tmod_eq_emod_of_nonneg hnn] at E3
          clear E4 E5 hnn
          go_wp2_with fail
          have c4 := levelOf_impl _ _ _ _ (k : Int) _ g1
          rw [hx.out] at c4
          refine c4.mono ?_
          clear c4
          rintro e w4 ⟨rfl, hb4⟩
          replace g1 := g1.below hb4
          replace g2 := g2.below hb4
          replace g3 := g3.below hb4
          replace hB := hB.trans (hb4.mono hB.size)
          clear hb4
          go_wp2_with fail
          have c5 := levelOf_impl _ _ _ _ (k : Int) _ g2
          rw [hy.out] at c5
          refine c5.mono ?_
          clear c5
          rintro e w5 ⟨rfl, hb5⟩
          replace g1 := g1.below hb5
          replace g2 := g2.below hb5
          replace g3 := g3.below hb5
          replace hB := hB.trans (hb5.mono hB.size)
          clear hb5
          go_wp2_with fail
          have c6 := levelOf_impl _ _ _ _ (k : Int) _ g3
          rw [E1] at c6
          refine c6.mono ?_
          clear c6
          rintro e w6 ⟨rfl, hb6⟩
          replace g1 := g1.below hb6
          replace g2 := g2.below hb6
          replace g3 := g3.below hb6
          replace hB := hB.trans (hb6.mono hB.size)
          clear hb6
          go_wp2_with fail
          have c7 := levelOf_impl _ _ _ _ (k : Int) _ g3
          rw [E1] at c7
          refine c7.mono ?_
          clear c7
          rintro e w7 ⟨rfl, hb7⟩
          replace g1 := g1.below hb7
          replace g2 := g2.below hb7
          replace g3 := g3.below hb7
          replace hB := hB.trans (hb7.mono hB.size)
          clear hb7
          go_wp2_with fail
          have c8 := levelOf_spec _ _ _ _ (k : Int) _ g3
          rw [E1] at c8
          refine c8.mono ?_
          clear c8
          rintro e w8 ⟨rfl, hb8⟩
          replace g1 := g1.below hb8
          replace g2 := g2.below hb8
          replace g3 := g3.below hb8
          replace hB := hB.trans (hb8.mono hB.size)
          clear hb8
          go_wp2_with fail
          have c9 := kept_impl _ _ _ _ (k : Int) _ g3
          rw [E2] at c9
          refine c9.mono ?_
          clear c9
          rintro e w9 ⟨rfl, hb9⟩
          replace g1 := g1.below hb9
          replace g2 := g2.below hb9
          replace g3 := g3.below hb9
          replace hB := hB.trans (hb9.mono hB.size)
          clear hb9
          go_wp2_with fail
          have c10 := kept_impl _ _ _ _ (k : Int) _ g1
          rw [hkx.out] at c10
          refine c10.mono ?_
          clear c10
          rintro e w10 ⟨rfl, hb10⟩
          replace g1 := g1.below hb10
          replace g2 := g2.below hb10
          replace g3 := g3.below hb10
          replace hB := hB.trans (hb10.mono hB.size)
          clear hb10
          cases kx with
          | true =>
            go_wp2_with fail
            have c12 := visible_impl _ _ _ _ (k : Int) _ g3
            rw [E3] at c12
            refine c12.mono ?_
            clear c12
            rintro e w12 ⟨rfl, hb12⟩
            replace g1 := g1.below hb12
            replace g2 := g2.below hb12
            replace g3 := g3.below hb12
            replace hB := hB.trans (hb12.mono hB.size)
            clear hb12
            go_wp2_with fail
            have c13 := visible_impl _ _ _ _ (k : Int) _ g3
            rw [E3] at c13
            refine c13.mono ?_
            clear c13
            rintro e w13 ⟨rfl, hb13⟩
            replace g1 := g1.below hb13
            replace g2 := g2.below hb13
            replace g3 := g3.below hb13
            replace hB := hB.trans (hb13.mono hB.size)
            clear hb13
            go_wp2_with fail
            have c14 := visible_spec _ _ _ _ (k : Int) _ g3
            rw [E3] at c14
            refine c14.mono ?_
            clear c14
            rintro e w14 ⟨rfl, hb14⟩
            replace g1 := g1.below hb14
            replace g2 := g2.below hb14
            replace g3 := g3.below hb14
            replace hB := hB.trans (hb14.mono hB.size)
            clear hb14
            go_wp2_with fail
            exact ⟨⟨k + 1, by omega, by omega, by go_num, hB⟩, by simp [intOf]; omega⟩
          | false =>
            go_wp2_with fail
            have c11 := kept_impl _ _ _ _ (k : Int) _ g2
            rw [hky.out] at c11
            refine c11.mono ?_
            clear c11
            rintro e w11 ⟨rfl, hb11⟩
            replace g1 := g1.below hb11
            replace g2 := g2.below hb11
            replace g3 := g3.below hb11
            replace hB := hB.trans (hb11.mono hB.size)
            clear hb11
            cases ky with
            | true =>
              go_wp2_with fail
              have c12 := visible_impl _ _ _ _ (k : Int) _ g3
              rw [E3] at c12
              refine c12.mono ?_
              clear c12
              rintro e w12 ⟨rfl, hb12⟩
              replace g1 := g1.below hb12
              replace g2 := g2.below hb12
              replace g3 := g3.below hb12
              replace hB := hB.trans (hb12.mono hB.size)
              clear hb12
              go_wp2_with fail
              have c13 := visible_impl _ _ _ _ (k : Int) _ g3
              rw [E3] at c13
              refine c13.mono ?_
              clear c13
              rintro e w13 ⟨rfl, hb13⟩
              replace g1 := g1.below hb13
              replace g2 := g2.below hb13
              replace g3 := g3.below hb13
              replace hB := hB.trans (hb13.mono hB.size)
              clear hb13
              go_wp2_with fail
              have c14 := visible_spec _ _ _ _ (k : Int) _ g3
              rw [E3] at c14
              refine c14.mono ?_
              clear c14
              rintro e w14 ⟨rfl, hb14⟩
              replace g1 := g1.below hb14
              replace g2 := g2.below hb14
              replace g3 := g3.below hb14
              replace hB := hB.trans (hb14.mono hB.size)
              clear hb14
              go_wp2_with fail
              exact ⟨⟨k + 1, by omega, by omega, by go_num, hB⟩, by simp [intOf]; omega⟩
            | false =>
              go_wp2_with fail
              have c12 := visible_impl _ _ _ _ (k : Int) _ g3
              rw [E3] at c12
              refine c12.mono ?_
              clear c12
              rintro e w12 ⟨rfl, hb12⟩
              replace g1 := g1.below hb12
              replace g2 := g2.below hb12
              replace g3 := g3.below hb12
              replace hB := hB.trans (hb12.mono hB.size)
              clear hb12
              go_wp2_with fail
              have c13 := visible_impl _ _ _ _ (k : Int) _ g3
              rw [E3] at c13
              refine c13.mono ?_
              clear c13
              rintro e w13 ⟨rfl, hb13⟩
              replace g1 := g1.below hb13
              replace g2 := g2.below hb13
              replace g3 := g3.below hb13
              replace hB := hB.trans (hb13.mono hB.size)
              clear hb13
              go_wp2_with fail
              have c14 := visible_spec _ _ _ _ (k : Int) _ g3
              rw [E3] at c14
              refine c14.mono ?_
              clear c14
              rintro e w14 ⟨rfl, hb14⟩
              replace g1 := g1.below hb14
              replace g2 := g2.below hb14
              replace g3 := g3.below hb14
              replace hB := hB.trans (hb14.mono hB.size)
              clear hb14
              go_wp2_with fail
              exact ⟨⟨k + 1, by omega, by omega, by go_num, hB⟩, by simp [intOf]; omega⟩
        · go_wp2_with fail
          go_ret
          exact ⟨rfl, B3.trans (hB.mono B3.size)⟩

theorem own : ownKnob Try.prog.godebug = none := by kernel_rfl
theorem laidOut : laidOutB Try.prog = true := by kernel_rfl
set_option maxRecDepth 100000 in
theorem lifted (os : Os) (started : os.Started) (H : Type) (enc : TypeId × Value → H) :
    ReturnsInHanded {} Try.checked os 5 .any (Rows.fnViewsSpec.pre6 enc Try.prog Try.f5 Rows.fnViewsRow.domain false) (Rows.fnViewsSpec.post enc Try.prog Try.f5 false true false false) := by
  refine returnsInHanded_of_change (C := Try.checked) own started (by kernel_rfl) Try.func5
    (ChangeSpec.witness6 (enc := enc) (C := Try.checked) false ⟨#[], #[.slice none 0 0], []⟩ 8 (by kernel_rfl) (by kernel_rfl) (by kernel_rfl) (by kernel_rfl)) ?_
  intro W base args ds gs before hval0 hW hcnd _
  have hval : ∀ (j : Nat) t v, Try.f5.params[j]? = some t → args[j]? = some v → Value.okWide Try.prog W .any base t v := hval0
  have hW' := hW
  obtain ⟨p, q, hA0, hV, rfl, hfz, hnd⟩ := hW
  have hA : DataW.TrodAll enc Try.prog W 0 (fun _ => true) true Try.f5.params.toList args.toList ds p := hA0
  rw [Try.params5] at hA hval
  obtain ⟨v0, vs0, d0, ds0, p0, q0, hargs, rfl, rfl, h0, r0⟩ := trodAll_cons hA
  obtain ⟨rfl, rfl, rfl⟩ := trodAll_nil r0
  obtain rfl : args = #[v0] := by cases args; simp_all
  obtain ⟨rfl, rfl⟩ := trodVars_none hV
  have k0 := h0
  have lt0 : ∀ x ∈ p0, x.block < W.heap.size := by obtain ⟨m, hm⟩ := k0; exact DataW.trod_lt m _ _ _ hm
  obtain ⟨a0, l0, c0, rfl⟩ := okWide_slice Try.underlying22 (hval 0 22 v0 rfl rfl)
  obtain ⟨fu0, hf0⟩ := h0
  have by0 := open_bytes hf0
  clear hA0 hval0
  refine (walk a0 l0 c0 W by0).mono fun e W' ⟨he, bel⟩ => ?_
  subst he
  exact ⟨_, rfl, _, _, _, [], _, [], hW', trodAll_mk1 (shut_bool Try.underlying4 _), (trodAll_cons_mk (Below.trod laidOut (by kernel_rfl) (of_decide_eq_true (by kernel_rfl)) k0 bel lt0) trodAll_mk0), rfl, bel.frame _, fun h => by cases h⟩

theorem over : Rows.fnViewsRow.holds Try.pinned (OpenSpec.ofChange Rows.fnViewsSpec) :=
  OpenClaim.holds_of_wide 5 Try.f5 rfl rfl rfl rfl rfl rfl rfl ⟨rfl, rfl, rfl, rfl, rfl⟩ rfl rfl rfl rfl rfl (by kernel_rfl) Try.func5 (by kernel_rfl)
    (of_decide_eq_true (by kernel_rfl)) (by unfold Func.isWrapper; first | (rw [if_pos (by decide +kernel)]; kernel_rfl) | (rw [if_neg (by decide +kernel)]; exact ⟨rfl, rfl⟩))
    (fun os started H enc _ => lifted os started H enc)

theorem proved : Rows.FnViewsSaid := over
end Go.Proofs.Ytnoinkmpkklikaa.fnViews
namespace Go.Proofs.Ytnoinkmpkklikaa
theorem fnViews_holds : Rows.FnViewsSaid := fnViews.proved
end Go.Proofs.Ytnoinkmpkklikaa
