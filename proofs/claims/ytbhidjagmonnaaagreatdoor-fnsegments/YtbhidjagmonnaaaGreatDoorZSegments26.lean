/-
  Texts of one proof, joined: Shaped, Rc3.
-/
import Derived.Handed
import Derived.Test.YtbhidjagmonnaaaGreatDoorZSegments23
import Derived.Test.YtbhidjagmonnaaaGreatDoorZSegments06
import Derived.Test.YtbhidjagmonnaaaGreatDoorZSegments25
namespace Go
variable {H : Type} {enc : TypeId × Value → H}
theorem returnsInHanded_and_shaped {a : Assume} {C : Checked} {os : Os} {f : FuncId} {fn : Func} {s : ChangeSpec} {conds : List PathCond} {apart fresh handsOn again : Bool} {X : World → Array Value → Prop}
    (hX : ∀ (w w' : World) (args : Array Value), w.heap = w'.heap → X w args → X w' args)
    (own : ownKnob C.prog.godebug = none) (started : os.Started) (noInit : C.prog.inits.idxOf? f = none) (hfn : C.prog.funcs[f]? = some fn)
    (witness : ∃ (w : World) (tape : Tape) (i : Input), w.os = os ∧ (w.forCall tape i).Shaped C.prog ∧ i.vars = [] ∧ Input.okWide C.prog (w.forCall tape i) .any w.heap.size f i ∧
      ((s.pre enc C.prog fn conds apart (w.forCall tape i).memory i.args ∧ X (w.forCall tape i).memory i.args) ∧ sizedMet enc C.prog fn (OpenSpec.ofChange s) apart (w.forCall tape i).memory i.args) ∧ a.holds C.prog (lone (Frame.enter C.prog f i.args .normal) [] (w.forCall tape i)))
    (contract : ∀ (W : World) (base : Nat) (args : Array Value) (ds gs : List (DataW H)) (before : List MemPlace),
      (∀ (j : Nat) t v, fn.params[j]? = some t → args[j]? = some v → Value.okWide C.prog W .any base t v) →
      DataW.Whole enc C.prog fn.params.toList s.vars apart W args.toList ds gs before →
      conds.all (PathCond.test C.prog ⟨fn.params.toList, ds, s.plain.varTypes C.prog, gs⟩) = true →
      (DataW.weightsEach C.prog (fn.params.toList ++ s.plain.varTypes C.prog) (ds ++ gs)).all (· ≤ reachBytes) = true → X W args →
      W.ShapedOpen C.prog →
      a.holds C.prog (lone (Frame.enter C.prog f args .normal) [] W) →
      Calls C.prog f args W fun e W' => ∃ v, e = .returned v ∧ s.post enc C.prog fn apart fresh handsOn again W args v W') :
    ReturnsInHanded a C os f .any (fun w args => (s.pre enc C.prog fn conds apart w args ∧ X w args) ∧ sizedMet enc C.prog fn (OpenSpec.ofChange s) apart w args) (s.post enc C.prog fn apart fresh handsOn again) := by
  refine returnsInHanded_of_calls own started noInit witness ?_
  intro w tape i _ hsh _ hok hpre hholds
  obtain ⟨_, _, _, fn', hfn', _, _, _, _, hval⟩ := hok
  cases Option.some.inj (hfn'.symm.trans hfn)
  obtain ⟨⟨⟨ds, gs, before, hw, hc⟩, hx⟩, hz⟩ := hpre
  refine (contract (w.forCall tape i) w.heap.size i.args ds gs before hval (DataW.Whole.of_heap (w' := w.forCall tape i) (by rfl) hw) hc (hz.weights hw) (hX _ _ _ (by rfl) hx) hsh hholds).mono fun e W' ⟨v, he, hp⟩ => ?_
  subst he
  exact ChangeSpec.post_blind hp
end Go
namespace Go.Proofs.YtbhidjagmonnaaaGreatDoor
open Go.ChangeShapes Go.WideShapes Go.ChangeAt Go.RowKit Go.Shelf
/-- internal/bytealg.MaxLen's cell holds some number. -/
def MaxIn (w : World) : Prop := 1 < w.heap.size ∧ ∃ m, w.cell? ⟨1, 0, none⟩ = some (.int .i64 m)
theorem maxIn_of {W : World} (h : W.ShapedOpen Tryz.prog) : MaxIn W := by
  obtain ⟨m, hm⟩ : ∃ m, W.cell? ⟨1, 0, none⟩ = some (.int .i64 m) := Tryz.laySplit.s1_3 W h
  refine ⟨?_, m, hm⟩
  by_cases hl : 1 < W.heap.size
  · exact hl
  · have : W.heap[1]? = none := Array.getElem?_eq_none (by omega)
    simp [World.cell?, this] at hm
theorem MaxIn.below {w w' : World} (h : MaxIn w) (hb : Below w.heap.size w w') : MaxIn w' := by
  obtain ⟨hg, m, hm⟩ := h
  exact ⟨Nat.lt_of_lt_of_le hg hb.size, m, (hb.cell (p := ⟨1, 0, none⟩) hg).trans hm⟩
end Go.Proofs.YtbhidjagmonnaaaGreatDoor

namespace Go.Proofs.YtbhidjagmonnaaaGreatDoor
open Go.ChangeShapes Go.WideShapes Go.ChangeAt Go.RowKit Go.Shelf
set_option linter.unusedSimpArgs false
set_option linter.unusedVariables false

theorem MaxIn.gr {w w' : World} {p : Nat} (h : MaxIn w) (hg : Gr p w w') (hp : ¬ 1 = p) : MaxIn w' := by
  obtain ⟨h1, m, hm⟩ := h
  exact ⟨Nat.lt_of_lt_of_le h1 hg.size, m, (gr_cell hg h1 hp 0).trans hm⟩

theorem far13 {w : World} {k m r : Nat} {f : Nat → Value} (h : RowAt w k m f) (hn : r ≠ k) (u : M1.Upd) : RowAt (((((((((((((w.setCell ⟨r, 0, none⟩ (.int .i64 u.dr)).setCell ⟨r, 1, none⟩ (.int .i64 u.dn)).setCell ⟨r, 2, none⟩ (.int .i64 u.sw)).setCell ⟨r, 3, none⟩ (.int .i64 u.sc)).setCell ⟨r, 4, none⟩ (.int .i64 u.sr)).setCell ⟨r, 5, none⟩ (.int .i64 u.k)).setCell ⟨r, 6, none⟩ (.int .i64 u.tr)).setCell ⟨r, 7, none⟩ (.int .i64 u.id)).setCell ⟨r, 8, none⟩ (.int .i64 u.pa)).setCell ⟨r, 9, none⟩ (.string u.s)).setCell ⟨r, 10, none⟩ (.int .i64 u.st)).setCell ⟨r, 11, none⟩ (.int .i64 u.en)).setCell ⟨r, 12, none⟩ (.int .i64 u.lv)) k m f :=
  (((((((((((((h.far (p := ⟨r, 0, none⟩) hn (.int .i64 u.dr)).far (p := ⟨r, 1, none⟩) hn (.int .i64 u.dn)).far (p := ⟨r, 2, none⟩) hn (.int .i64 u.sw)).far (p := ⟨r, 3, none⟩) hn (.int .i64 u.sc)).far (p := ⟨r, 4, none⟩) hn (.int .i64 u.sr)).far (p := ⟨r, 5, none⟩) hn (.int .i64 u.k)).far (p := ⟨r, 6, none⟩) hn (.int .i64 u.tr)).far (p := ⟨r, 7, none⟩) hn (.int .i64 u.id)).far (p := ⟨r, 8, none⟩) hn (.int .i64 u.pa)).far (p := ⟨r, 9, none⟩) hn (.string u.s)).far (p := ⟨r, 10, none⟩) hn (.int .i64 u.st)).far (p := ⟨r, 11, none⟩) hn (.int .i64 u.en)).far (p := ⟨r, 12, none⟩) hn (.int .i64 u.lv))
theorem gr13 {g r : Nat} {a w : World} (h : Gr g a w) (hr : a.heap.size ≤ r) (u : M1.Upd) : Gr g a (((((((((((((w.setCell ⟨r, 0, none⟩ (.int .i64 u.dr)).setCell ⟨r, 1, none⟩ (.int .i64 u.dn)).setCell ⟨r, 2, none⟩ (.int .i64 u.sw)).setCell ⟨r, 3, none⟩ (.int .i64 u.sc)).setCell ⟨r, 4, none⟩ (.int .i64 u.sr)).setCell ⟨r, 5, none⟩ (.int .i64 u.k)).setCell ⟨r, 6, none⟩ (.int .i64 u.tr)).setCell ⟨r, 7, none⟩ (.int .i64 u.id)).setCell ⟨r, 8, none⟩ (.int .i64 u.pa)).setCell ⟨r, 9, none⟩ (.string u.s)).setCell ⟨r, 10, none⟩ (.int .i64 u.st)).setCell ⟨r, 11, none⟩ (.int .i64 u.en)).setCell ⟨r, 12, none⟩ (.int .i64 u.lv)) :=
  (gr_new (gr_new (gr_new (gr_new (gr_new (gr_new (gr_new (gr_new (gr_new (gr_new (gr_new (gr_new (gr_new h ⟨r, 0, none⟩ hr (.int .i64 u.dr)) ⟨r, 1, none⟩ hr (.int .i64 u.dn)) ⟨r, 2, none⟩ hr (.int .i64 u.sw)) ⟨r, 3, none⟩ hr (.int .i64 u.sc)) ⟨r, 4, none⟩ hr (.int .i64 u.sr)) ⟨r, 5, none⟩ hr (.int .i64 u.k)) ⟨r, 6, none⟩ hr (.int .i64 u.tr)) ⟨r, 7, none⟩ hr (.int .i64 u.id)) ⟨r, 8, none⟩ hr (.int .i64 u.pa)) ⟨r, 9, none⟩ hr (.string u.s)) ⟨r, 10, none⟩ hr (.int .i64 u.st)) ⟨r, 11, none⟩ hr (.int .i64 u.en)) ⟨r, 12, none⟩ hr (.int .i64 u.lv))

set_option maxHeartbeats 8000000 in
set_option maxRecDepth 100000 in
theorem supdate_any (p : Nat) (s : ByteArray) (a : Nat) (w : World) (h : SRd w p s a) (hs : s.size ≤ maxLen) (ha : a ≤ s.size) (hm : MaxIn w) (hp : ¬ 1 = p) :
    Calls Tryz.prog 60 #[.pointer (some ⟨p, 0, none⟩)] w fun e w' => Gr p w w' ∧ ((∃ u : M1.Upd, Hid (M1.frU s a = some u) ∧ e = .returned (.agg #[.int .i64 u.dr, .int .i64 u.dn, .int .i64 u.sw, .int .i64 u.sc, .int .i64 u.sr, .int .i64 u.k, .int .i64 u.tr, .int .i64 u.id, .int .i64 u.pa, .string u.s, .int .i64 u.st, .int .i64 u.en, .int .i64 u.lv]) ∧ SRd w' p s (a + 5 + M1.lnAt s a)) ∨ (Hid (M1.frU s a = none) ∧ Pnc e)) := by
  have hA : Below w.heap.size w (w.alloc (.cells #[.int .i64 0, .int .i64 0, .int .i64 0, .int .i64 0, .int .i64 0, .int .i64 0, .int .i64 0, .int .i64 0, .int .i64 0, .string ⟨#[]⟩, .int .i64 0, .int .i64 0, .int .i64 0] 47)) := (Below.refl _ _).alloc (Nat.le_refl _) _
  have hpl := h.lt
  go_enter Tryz.func60, Tryz.ntmps60
  go_upto_region 1 with fail
  obtain ⟨W0, hW0⟩ : ∃ W, w.alloc (.cells #[.int .i64 0, .int .i64 0, .int .i64 0, .int .i64 0, .int .i64 0, .int .i64 0, .int .i64 0, .int .i64 0, .int .i64 0, .string ⟨#[]⟩, .int .i64 0, .int .i64 0, .int .i64 0] 47) = W := ⟨_, rfl⟩
  have rr0 := uq_new w M1.zeroU 47
  unfold M1.zeroU at rr0
  rw [show (ByteArray.empty) = (⟨#[]⟩ : ByteArray) from rfl] at rr0
  rw [hW0] at hA rr0 ⊢
  clear hW0
  have h0 : SRd W0 p s a := h.below hA
  have G0 : Gr p w W0 := gr_below hA
  have hm0 := hm.gr G0 hp
  have hrp : ¬ w.heap.size = p := by omega
  obtain ⟨q, hq⟩ : ∃ q, Hid (w.heap.size = q) := ⟨_, rfl⟩
  rw [hq.out] at rr0 hrp ⊢
  have hr0 := rr0.lt
  clear h hm
  go_wp2_with fail
  refine (frame_any p s a _ h0 hs ha).mono ?_
  rintro e w1 ⟨G1, ⟨HF, rfl, r1⟩ | ⟨HF, t, v, rfl⟩⟩
  · have hz : (M1.dataAt s a).size ≤ 1048576 := by
      have := HF.2.1
      unfold M1.dataAt; rw [ByteArray.size_extract]; omega
    have HU : Hid (M1.frU s a = M1.rdU (M1.dataAt s a).data.toList) := M1.frU_yes HF
    have G1' := gr_trans G0 G1
    obtain ⟨hg, m, hmc⟩ := hm0.gr G1 hp
    have rr1 := rr0.gr G1 hrp
    clear rr0 h0 hm0 G0 HF
    go_wp2_with fail
    refine (readUpdate_impl _ m _ hz hg hmc).mono ?_
    rintro e w2 ⟨rfl, hb2⟩
    have G2 := gr_trans G1' (gr_below (g := p) hb2)
    have r2 : SRd w2 p s (a + 5 + M1.lnAt s a) := r1.below hb2
    have rr2 := rr1.below hb2
    clear rr1 r1 hmc hg
    cases hu : M1.rdU (M1.dataAt s a).data.toList with
    | none =>
      have HR : Hid (M1.frU s a = none) := (by rw [HU.out, hu] : _ = _)
      have E := rdW_none hu
      rw [E]
      clear E hu
      go_wp2_with fail
      refine (want_no _ _).mono ?_
      rintro e w3 ⟨⟨t, v, rfl⟩, rfl⟩
      go_wp2_with fail
      exact ⟨rfl, gr_alloc G2 _, .inr ⟨HR, _, _, rfl⟩⟩
    | some u =>
      have HR : Hid (M1.frU s a = some u) := (by rw [HU.out, hu] : _ = _)
      have E := rdW_some hu
      rw [E]
      clear E hu
      go_wp2_with fail
      obtain ⟨W3, hW3⟩ : ∃ W, w2.alloc (.cells #[.int .i64 u.dr, .int .i64 u.dn, .int .i64 u.sw, .int .i64 u.sc, .int .i64 u.sr, .int .i64 u.k, .int .i64 u.tr, .int .i64 u.id, .int .i64 u.pa, .string u.s, .int .i64 u.st, .int .i64 u.en, .int .i64 u.lv] 47) = W := ⟨_, rfl⟩
      have hA3 : Below w2.heap.size w2 W3 := by rw [← hW3]; exact (Below.refl _ _).alloc (Nat.le_refl _) _
      have rq3 : RowAt W3 w2.heap.size 13 (uq u) := by rw [← hW3]; exact uq_new w2 u 47
      rw [hW3]
      clear hW3
      have G3 := gr_trans G2 (gr_below (g := p) hA3)
      have r3 : SRd W3 p s (a + 5 + M1.lnAt s a) := r2.below hA3
      have rr3 := rr2.below hA3
      obtain ⟨x, hx⟩ : ∃ x, Hid (w2.heap.size = x) := ⟨_, rfl⟩
      have hql := rr2.lt
      rw [hx.out] at rq3 hql ⊢
      have hqx : ¬ q = x := by omega
      clear G2 r2 rr2 hA3
      refine (want_yes _ _).mono ?_
      rintro e w4 ⟨rfl, rfl⟩
      have hqw : w.heap.size ≤ q := by have := hq.out; omega
      have rz := uq_put rr3 u
      have rs := far13 r3 (r := q) hrp u
      have Gz := gr13 G3 hqw u
      obtain ⟨c0, c1, c2, c3, c4, c5, c6, c7, c8, c9, c10, c11, c12⟩ := uq_cells rq3
      obtain ⟨b0, b1, b2, b3, b4, b5, b6, b7, b8, b9, b10, b11, b12⟩ := uq_cells rr3
      obtain ⟨y0, y1, y2, y3, y4, y5, y6, y7, y8, y9, y10, y11, y12⟩ := uq_free rr3
      have ql := rr3.lt
      have xl := rq3.lt
      go_wp2_with fail
      obtain ⟨Wz, hWz⟩ : ∃ W, (((((((((((((w4.setCell ⟨q, 0, none⟩ (.int .i64 u.dr)).setCell ⟨q, 1, none⟩ (.int .i64 u.dn)).setCell ⟨q, 2, none⟩ (.int .i64 u.sw)).setCell ⟨q, 3, none⟩ (.int .i64 u.sc)).setCell ⟨q, 4, none⟩ (.int .i64 u.sr)).setCell ⟨q, 5, none⟩ (.int .i64 u.k)).setCell ⟨q, 6, none⟩ (.int .i64 u.tr)).setCell ⟨q, 7, none⟩ (.int .i64 u.id)).setCell ⟨q, 8, none⟩ (.int .i64 u.pa)).setCell ⟨q, 9, none⟩ (.string u.s)).setCell ⟨q, 10, none⟩ (.int .i64 u.st)).setCell ⟨q, 11, none⟩ (.int .i64 u.en)).setCell ⟨q, 12, none⟩ (.int .i64 u.lv)) = W := ⟨_, rfl⟩
      rw [hWz] at rz rs Gz ⊢
      clear hWz b0 b1 b2 b3 b4 b5 b6 b7 b8 b9 b10 b11 b12 y0 y1 y2 y3 y4 y5 y6 y7 y8 y9 y10 y11 y12 c0 c1 c2 c3 c4 c5 c6 c7 c8 c9 c10 c11 c12
      obtain ⟨v0, v1, v2, v3, v4, v5, v6, v7, v8, v9, v10, v11, v12⟩ := uq_cells rz
      refine bodyPost_ret (v := .agg #[.int .i64 u.dr, .int .i64 u.dn, .int .i64 u.sw, .int .i64 u.sc, .int .i64 u.sr, .int .i64 u.k, .int .i64 u.tr, .int .i64 u.id, .int .i64 u.pa, .string u.s, .int .i64 u.st, .int .i64 u.en, .int .i64 u.lv]) (by simp [results, Tryz.results60, go_sem, v0, v1, v2, v3, v4, v5, v6, v7, v8, v9, v10, v11, v12]) rfl ?_
      exact ⟨Gz, .inl ⟨u, HR, rfl, rs⟩⟩
  · have HR : Hid (M1.frU s a = none) := M1.frU_no HF
    go_wp2_with fail
    exact ⟨rfl, gr_trans G0 G1, .inr ⟨HR, _, _, rfl⟩⟩
end Go.Proofs.YtbhidjagmonnaaaGreatDoor
