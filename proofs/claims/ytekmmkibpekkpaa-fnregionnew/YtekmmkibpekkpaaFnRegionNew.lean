/-
  For every slice of bytes the law FnRegionNew answers true: a new region of a drawn number has nothing, and is as the model's; the argument reads as it did. No condition.
-/
import Derived.Test.YtekmmkibpekkpaaSameS
import Derived.Test.YtekmmkibpekkpaaReg3
import Derived.Test.YtekmmkibpekkpaaExRegionNew
import Derived.Test.YtekmmkibpekkpaaBytes
import Derived.Deep.DeepCutAuto
import Derived.ShutString
import Derived.ChangeOld
namespace M1
theorem regOk_new (id : Int) (h : inB id 1 5 = true) : regOk id 0 0 id [] = true := by
  rw [regOk_5 h (by simp [stOk, h]; simp [inB]) rfl (by decide)]; decide
end M1
namespace Go.Proofs.Ytekmmkibpekkpaa.fnRegionNew
open Go.ChangeShapes Go.WideShapes Go.ChangeAt Go.RowKit
set_option linter.unusedVariables false
set_option linter.unusedSimpArgs false

theorem drawRegionNew_any (av : Option Addr) (len cap : Nat) (w : World) (h : IsBytes w av len cap) :
    Calls Try.prog 24 #[.slice av len cap] w fun e w' => ∃ x : Int, e = .returned (.int .i64 x) ∧ Below w.heap.size w w' := by
  go_enter Try.func24, Try.ntmps24
  go_wp2_with fail
  refine (l1Open_any _ _ _ _ h).mono ?_
  rintro e w1 ⟨rfl, hR1, hb1⟩
  go_wp2_with fail
  refine (off_any _ _ _ _ _ _ _ hR1 (by omega) (by omega) (by omega)).mono ?_
  rintro e w2 ⟨x, rfl, x0, x1, hR2, hG2⟩
  go_wp2_with fail
  go_ret
  exact ⟨x, rfl, hb1.trans (gr_to hG2 hb1.size (by omega))⟩

set_option maxHeartbeats 4000000 in
theorem walk (av : Option Addr) (len cap : Nat) (w : World) (h : IsBytes w av len cap) :
    Calls Try.prog 5 #[.slice av len cap] w fun e w' => e = .returned (.bool true) ∧ Below w.heap.size w w' := by
  by_cases hl : (1048576 : Int) < (len : Int)
  · go_enter Try.func5, Try.ntmps5
    go_wp2_with fail
    refine (big_any _ _ _ _ h.hc h.hm).mono ?_
    rw [decide_eq_true hl]
    rintro e w0 ⟨rfl, rfl⟩
    go_wp2_with fail
    go_ret
    exact ⟨rfl, Below.refl _ _⟩
  · go_enter Try.func5, Try.ntmps5
    go_wp2_with fail
    refine (big_any _ _ _ _ h.hc h.hm).mono ?_
    rw [decide_eq_false (by omega : ¬ (1048576 : Int) < (len : Int))]
    rintro e w0 ⟨rfl, rfl⟩
    go_wp2_with fail
    refine (drawRegionNew_any _ _ _ _ h).mono ?_
    rintro e w1 ⟨id, rfl, hB1⟩
    by_cases q : M1.inB id 1 5 = true
    · have HX : Hid ((if M1.inB id 1 5 = true then id else 0) = id) := (if_pos q : _)
      have HR : Hid (M1.regOk id 0 0 id [] = true) := M1.regOk_new id q
      have HY : Hid (M1.inB id 1 5 = true) := q
      clear q
      have hidb : (id == id) = true := by simp
      go_wp2_with fail
      refine (regionNew_impl _ _).mono ?_
      rw [HX.out, HY.out]
      rintro e w2 ⟨rfl, hb2⟩
      have B2 := hB1.trans (hb2.mono hB1.size)
      have hs2 := B2.size
      go_wp2_with fail
      obtain ⟨W3, hW3⟩ : ∃ W, W = (w2.alloc (.cells #[.int .i64 id, .int .i64 0, .int .i64 0, .int .i64 id, .slice none 0 0] 48)) := ⟨_, rfl⟩
      have bb3 : Below w2.heap.size w2 W3 := by rw [hW3]; exact (Below.refl _ _).alloc (Nat.le_refl _) _
      have hz3 : W3.heap.size = w2.heap.size + 1 := by rw [hW3]; simp
      have rw3 : RowAt W3 w2.heap.size 5 (fun o => (#[.int .i64 id, .int .i64 0, .int .i64 0, .int .i64 id, .slice none 0 0] : Array Value).getD o undef) := by rw [hW3]; exact RowAt.new w2 _ _
      rw [← hW3]
      clear hW3
      have B3 : Below w0.heap.size w0 W3 := by repeat (first | (with_reducible exact Below.refl _ _) | ((with_reducible refine Below.setCell ?_ ?_ _); rotate_left; (focus (first | omega | (simp; done) | (simp; omega)))) | ((with_reducible refine Below.alloc ?_ ?_ _); rotate_left; (focus (first | omega | (simp; done) | (simp; omega)))) | (with_reducible refine Below.drew ?_) | ((with_reducible refine Below.trans ?_ (Below.mono bb3 ?_)); rotate_left; (focus (first | omega | (simp; done) | (simp; omega)))) | ((with_reducible refine Below.trans ?_ (Below.mono B2 ?_)); rotate_left; (focus (first | omega | (simp; done) | (simp; omega)))))
      refine (regionNew_spec _ _).mono ?_
      rw [HX.out, HY.out]
      rintro e w4 ⟨rfl, hb4⟩
      have B4 : Below w0.heap.size w0 w4 := by repeat (first | (with_reducible exact Below.refl _ _) | ((with_reducible refine Below.setCell ?_ ?_ _); rotate_left; (focus (first | omega | (simp; done) | (simp; omega)))) | ((with_reducible refine Below.alloc ?_ ?_ _); rotate_left; (focus (first | omega | (simp; done) | (simp; omega)))) | (with_reducible refine Below.drew ?_) | ((with_reducible refine Below.trans ?_ (Below.mono hb4 ?_)); rotate_left; (focus (first | omega | (simp; done) | (simp; omega)))) | ((with_reducible refine Below.trans ?_ (Below.mono B3 ?_)); rotate_left; (focus (first | omega | (simp; done) | (simp; omega)))))
      have p4 := rw3.below hb4
      have hs4 := B4.size
      have c0 := p4.cell (o := 0) (by omega)
      have c1 := p4.cell (o := 1) (by omega)
      have c2 := p4.cell (o := 2) (by omega)
      have c3 := p4.cell (o := 3) (by omega)
      have c4 := p4.cell (o := 4) (by omega)
      simp at c0 c1 c2 c3 c4
      have cl := p4.lt
      go_wp2_with fail
      clear c0 c1 c2 c3 c4 cl
      obtain ⟨W5, hW5⟩ : ∃ W, W = (w4.alloc (.cells #[.int .i64 id, .int .i64 0, .int .i64 0, .int .i64 id, .slice none 0 0] 48)) := ⟨_, rfl⟩
      have bb5 : Below w4.heap.size w4 W5 := by rw [hW5]; exact (Below.refl _ _).alloc (Nat.le_refl _) _
      have hz5 : W5.heap.size = w4.heap.size + 1 := by rw [hW5]; simp
      have rw5 : RowAt W5 w4.heap.size 5 (fun o => (#[.int .i64 id, .int .i64 0, .int .i64 0, .int .i64 id, .slice none 0 0] : Array Value).getD o undef) := by rw [hW5]; exact RowAt.new w4 _ _
      rw [← hW5]
      clear hW5
      have B5 : Below w0.heap.size w0 W5 := by repeat (first | (with_reducible exact Below.refl _ _) | ((with_reducible refine Below.setCell ?_ ?_ _); rotate_left; (focus (first | omega | (simp; done) | (simp; omega)))) | ((with_reducible refine Below.alloc ?_ ?_ _); rotate_left; (focus (first | omega | (simp; done) | (simp; omega)))) | (with_reducible refine Below.drew ?_) | ((with_reducible refine Below.trans ?_ (Below.mono bb5 ?_)); rotate_left; (focus (first | omega | (simp; done) | (simp; omega)))) | ((with_reducible refine Below.trans ?_ (Below.mono B4 ?_)); rotate_left; (focus (first | omega | (simp; done) | (simp; omega)))))
      refine (sameRegion_self _ _ _ _ _ _ _ _ _ _ _ (isUpds_nil _) (isUpds_nil _)).mono ?_
      rintro e w6 ⟨rfl, hb6⟩
      have B6 : Below w0.heap.size w0 w6 := by repeat (first | (with_reducible exact Below.refl _ _) | ((with_reducible refine Below.setCell ?_ ?_ _); rotate_left; (focus (first | omega | (simp; done) | (simp; omega)))) | ((with_reducible refine Below.alloc ?_ ?_ _); rotate_left; (focus (first | omega | (simp; done) | (simp; omega)))) | (with_reducible refine Below.drew ?_) | ((with_reducible refine Below.trans ?_ (Below.mono hb6 ?_)); rotate_left; (focus (first | omega | (simp; done) | (simp; omega)))) | ((with_reducible refine Below.trans ?_ (Below.mono B5 ?_)); rotate_left; (focus (first | omega | (simp; done) | (simp; omega)))))
      have p6 := (p4.below bb5).below hb6
      have hs6 := hb6.size
      have c0 := p6.cell (o := 0) (by omega)
      have c1 := p6.cell (o := 1) (by omega)
      have c2 := p6.cell (o := 2) (by omega)
      have c3 := p6.cell (o := 3) (by omega)
      have c4 := p6.cell (o := 4) (by omega)
      simp at c0 c1 c2 c3 c4
      have cl := p6.lt
      go_wp2_with fail
      refine (regionOk_impl _ _ _ _ _ _ _ _ _ (isUpds_nil _)).mono ?_
      rw [HR.out]
      rintro e w7 ⟨rfl, hb7⟩
      have B7 : Below w0.heap.size w0 w7 := by repeat (first | (with_reducible exact Below.refl _ _) | ((with_reducible refine Below.setCell ?_ ?_ _); rotate_left; (focus (first | omega | (simp; done) | (simp; omega)))) | ((with_reducible refine Below.alloc ?_ ?_ _); rotate_left; (focus (first | omega | (simp; done) | (simp; omega)))) | (with_reducible refine Below.drew ?_) | ((with_reducible refine Below.trans ?_ (Below.mono hb7 ?_)); rotate_left; (focus (first | omega | (simp; done) | (simp; omega)))) | ((with_reducible refine Below.trans ?_ (Below.mono B6 ?_)); rotate_left; (focus (first | omega | (simp; done) | (simp; omega)))))
      have p7 := p6.below hb7
      clear c0 c1 c2 c3 c4 cl
      have c0 := p7.cell (o := 0) (by omega)
      have c1 := p7.cell (o := 1) (by omega)
      have c2 := p7.cell (o := 2) (by omega)
      have c3 := p7.cell (o := 3) (by omega)
      have c4 := p7.cell (o := 4) (by omega)
      simp at c0 c1 c2 c3 c4
      have cl := p7.lt
      go_wp2_with fail
      go_ret
      exact ⟨rfl, B7⟩
    · have HX : Hid ((if M1.inB id 1 5 = true then id else 0) = 0) := (if_neg q : _)
      have HY : Hid (M1.inB id 1 5 = false) := (by simpa using q : M1.inB id 1 5 = false)
      clear q
      go_wp2_with fail
      refine (regionNew_impl _ _).mono ?_
      rw [HX.out, HY.out]
      rintro e w2 ⟨rfl, hb2⟩
      have B2 := hB1.trans (hb2.mono hB1.size)
      have hs2 := B2.size
      go_wp2_with fail
      obtain ⟨W3, hW3⟩ : ∃ W, W = (w2.alloc (.cells #[.int .i64 0, .int .i64 0, .int .i64 0, .int .i64 0, .slice none 0 0] 48)) := ⟨_, rfl⟩
      have bb3 : Below w2.heap.size w2 W3 := by rw [hW3]; exact (Below.refl _ _).alloc (Nat.le_refl _) _
      have hz3 : W3.heap.size = w2.heap.size + 1 := by rw [hW3]; simp
      have rw3 : RowAt W3 w2.heap.size 5 (fun o => (#[.int .i64 0, .int .i64 0, .int .i64 0, .int .i64 0, .slice none 0 0] : Array Value).getD o undef) := by rw [hW3]; exact RowAt.new w2 _ _
      rw [← hW3]
      clear hW3
      have B3 : Below w0.heap.size w0 W3 := by repeat (first | (with_reducible exact Below.refl _ _) | ((with_reducible refine Below.setCell ?_ ?_ _); rotate_left; (focus (first | omega | (simp; done) | (simp; omega)))) | ((with_reducible refine Below.alloc ?_ ?_ _); rotate_left; (focus (first | omega | (simp; done) | (simp; omega)))) | (with_reducible refine Below.drew ?_) | ((with_reducible refine Below.trans ?_ (Below.mono bb3 ?_)); rotate_left; (focus (first | omega | (simp; done) | (simp; omega)))) | ((with_reducible refine Below.trans ?_ (Below.mono B2 ?_)); rotate_left; (focus (first | omega | (simp; done) | (simp; omega)))))
      refine (regionNew_spec _ _).mono ?_
      rw [HX.out, HY.out]
      rintro e w4 ⟨rfl, hb4⟩
      have B4 : Below w0.heap.size w0 w4 := by repeat (first | (with_reducible exact Below.refl _ _) | ((with_reducible refine Below.setCell ?_ ?_ _); rotate_left; (focus (first | omega | (simp; done) | (simp; omega)))) | ((with_reducible refine Below.alloc ?_ ?_ _); rotate_left; (focus (first | omega | (simp; done) | (simp; omega)))) | (with_reducible refine Below.drew ?_) | ((with_reducible refine Below.trans ?_ (Below.mono hb4 ?_)); rotate_left; (focus (first | omega | (simp; done) | (simp; omega)))) | ((with_reducible refine Below.trans ?_ (Below.mono B3 ?_)); rotate_left; (focus (first | omega | (simp; done) | (simp; omega)))))
      have p4 := rw3.below hb4
      have hs4 := B4.size
      have c0 := p4.cell (o := 0) (by omega)
      have c1 := p4.cell (o := 1) (by omega)
      have c2 := p4.cell (o := 2) (by omega)
      have c3 := p4.cell (o := 3) (by omega)
      have c4 := p4.cell (o := 4) (by omega)
      simp at c0 c1 c2 c3 c4
      have cl := p4.lt
      go_wp2_with fail
      clear c0 c1 c2 c3 c4 cl
      obtain ⟨W5, hW5⟩ : ∃ W, W = (w4.alloc (.cells #[.int .i64 0, .int .i64 0, .int .i64 0, .int .i64 0, .slice none 0 0] 48)) := ⟨_, rfl⟩
      have bb5 : Below w4.heap.size w4 W5 := by rw [hW5]; exact (Below.refl _ _).alloc (Nat.le_refl _) _
      have hz5 : W5.heap.size = w4.heap.size + 1 := by rw [hW5]; simp
      have rw5 : RowAt W5 w4.heap.size 5 (fun o => (#[.int .i64 0, .int .i64 0, .int .i64 0, .int .i64 0, .slice none 0 0] : Array Value).getD o undef) := by rw [hW5]; exact RowAt.new w4 _ _
      rw [← hW5]
      clear hW5
      have B5 : Below w0.heap.size w0 W5 := by repeat (first | (with_reducible exact Below.refl _ _) | ((with_reducible refine Below.setCell ?_ ?_ _); rotate_left; (focus (first | omega | (simp; done) | (simp; omega)))) | ((with_reducible refine Below.alloc ?_ ?_ _); rotate_left; (focus (first | omega | (simp; done) | (simp; omega)))) | (with_reducible refine Below.drew ?_) | ((with_reducible refine Below.trans ?_ (Below.mono bb5 ?_)); rotate_left; (focus (first | omega | (simp; done) | (simp; omega)))) | ((with_reducible refine Below.trans ?_ (Below.mono B4 ?_)); rotate_left; (focus (first | omega | (simp; done) | (simp; omega)))))
      refine (sameRegion_self _ _ _ _ _ _ _ _ _ _ _ (isUpds_nil _) (isUpds_nil _)).mono ?_
      rintro e w6 ⟨rfl, hb6⟩
      have B6 : Below w0.heap.size w0 w6 := by repeat (first | (with_reducible exact Below.refl _ _) | ((with_reducible refine Below.setCell ?_ ?_ _); rotate_left; (focus (first | omega | (simp; done) | (simp; omega)))) | ((with_reducible refine Below.alloc ?_ ?_ _); rotate_left; (focus (first | omega | (simp; done) | (simp; omega)))) | (with_reducible refine Below.drew ?_) | ((with_reducible refine Below.trans ?_ (Below.mono hb6 ?_)); rotate_left; (focus (first | omega | (simp; done) | (simp; omega)))) | ((with_reducible refine Below.trans ?_ (Below.mono B5 ?_)); rotate_left; (focus (first | omega | (simp; done) | (simp; omega)))))
      go_wp2_with fail
      go_ret
      exact ⟨rfl, B6⟩

theorem own : ownKnob Try.prog.godebug = none := by kernel_rfl
theorem laidOut : laidOutB Try.prog = true := by kernel_rfl
set_option maxRecDepth 100000 in
theorem lifted (os : Os) (started : os.Started) (H : Type) (enc : TypeId × Value → H) :
    ReturnsInHanded {} Try.checked os 5 .any (Rows.fnRegionNewSpec.pre6 enc Try.prog Try.f5 Rows.fnRegionNewRow.domain false) (Rows.fnRegionNewSpec.post enc Try.prog Try.f5 false true false false) := by
  refine returnsInHanded_of_change (C := Try.checked) own started (by kernel_rfl) Try.func5
    (ChangeSpec.witness6 (enc := enc) (C := Try.checked) false ⟨#[], #[.slice none 0 0], []⟩ 8 (by kernel_rfl) (by kernel_rfl) (by kernel_rfl) (by kernel_rfl)) ?_
  intro W base args ds gs before hval0 hW hcnd _
  have hval : ∀ (j : Nat) t v, Try.f5.params[j]? = some t → args[j]? = some v → Value.okWide Try.prog W .any base t v := hval0
  have hW' := hW
  obtain ⟨p, q, hA0, hV, rfl, hfz, hnd⟩ := hW
  have hA : DataW.TrodAll enc Try.prog W 0 (fun _ => true) true Try.f5.params.toList args.toList ds p := hA0
  rw [Try.params5] at hA hval
  obtain ⟨v0, vs0, d0, ds0, p0, q0, hargs, rfl, rfl, h0, r0⟩ := trodAll_cons hA
  obtain ⟨rfl, rfl, rfl⟩ := trodAll_nil r0
  obtain rfl : args = #[v0] := by cases args; simp_all
  obtain ⟨rfl, rfl⟩ := trodVars_none hV
  have k0 := h0
  have lt0 : ∀ x ∈ p0, x.block < W.heap.size := by obtain ⟨m, hm⟩ := k0; exact DataW.trod_lt m _ _ _ hm
  obtain ⟨a0, l0, c0, rfl⟩ := okWide_slice Try.underlying22 (hval 0 22 v0 rfl rfl)
  obtain ⟨fu0, hf0⟩ := h0
  have by0 := open_bytes hf0
  clear hA0 hval0
  refine (walk a0 l0 c0 W by0).mono fun e W' ⟨he, bel⟩ => ?_
  subst he
  exact ⟨_, rfl, _, _, _, [], _, [], hW', trodAll_mk1 (shut_bool Try.underlying4 _), (trodAll_cons_mk (Below.trod laidOut (by kernel_rfl) (of_decide_eq_true (by kernel_rfl)) k0 bel lt0) trodAll_mk0), rfl, bel.frame _, fun h => by cases h⟩

theorem over : Rows.fnRegionNewRow.holds Try.pinned (OpenSpec.ofChange Rows.fnRegionNewSpec) :=
  OpenClaim.holds_of_wide 5 Try.f5 rfl rfl rfl rfl rfl rfl rfl ⟨rfl, rfl, rfl, rfl, rfl⟩ rfl rfl rfl rfl rfl (by kernel_rfl) Try.func5 (by kernel_rfl)
    (of_decide_eq_true (by kernel_rfl)) (by unfold Func.isWrapper; first | (rw [if_pos (by decide +kernel)]; kernel_rfl) | (rw [if_neg (by decide +kernel)]; exact ⟨rfl, rfl⟩))
    (fun os started H enc _ => lifted os started H enc)

theorem proved : Rows.FnRegionNewSaid := over
end Go.Proofs.Ytekmmkibpekkpaa.fnRegionNew
namespace Go.Proofs.Ytekmmkibpekkpaa
theorem fnRegionNew_holds : Rows.FnRegionNewSaid := fnRegionNew.proved
end Go.Proofs.Ytekmmkibpekkpaa
