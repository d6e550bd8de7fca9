/-
  Rows of numbers by append; the contracts of the model's l4Has and l4Put.
-/
import Derived.Test.YtpflbhjgnmkajaaGreatZFound29
import Derived.Test.YtpflbhjgnmkajaaGreatZFound25
namespace Go.Proofs.YtpflbhjgnmkajaaGreat
open Go.ChangeShapes Go.WideShapes Go.ChangeAt Go.RowKit
set_option linter.unusedSimpArgs false
set_option linter.unusedVariables false

theorem infoI0 : (Tryz.prog.info? 2).map (fun i => (i.zero, i.size, i.bytes)) = some (some (.int .i64 0), 1, 8) := by kernel_rfl
theorem infoI : ∃ i, Tryz.prog.info? 2 = some i ∧ i.zero = some (.int .i64 0) ∧ i.size = 1 ∧ i.bytes = 8 := by
  have h := infoI0
  cases e : Tryz.prog.info? 2 with
  | none => rw [e] at h; cases h
  | some i => rw [e] at h; simp at h; exact ⟨i, rfl, h.1, h.2.1, h.2.2⟩
def iL (zs : List Int) : List Value := zs.map (Value.int .i64)
theorem iL_len (zs : List Int) : (iL zs).length = zs.length * 1 := by simp [iL]
theorem iL_get (zs : List Int) (o : Nat) (h : o < zs.length * 1) : (iL zs).getD o undef = icell zs o := by
  have h' : o < zs.length := by omega
  simp [iL, icell, List.getD, h']
theorem iL_one (zs : List Int) : ∀ v ∈ iL zs, v.oneCell' = true := by
  intro v hv
  simp [iL] at hv
  obtain ⟨x, _, rfl⟩ := hv
  rfl
theorem MI.of_owns {w : World} {base n : Nat} {e : TypeId} {av : Option Addr} {cap : Nat} {zs : List Int} (hl : zs.length = n) (h : w.ownsRow base e 1 (.slice av n cap) n (iL zs)) : MI w av n cap base w.heap.size (icell zs) := by
  have h0 := h
  obtain ⟨h1, h2⟩ := h
  rcases h2 with ⟨e1, h3⟩ | ⟨g, cap', cur, e1, hg, hh, hn, hm, hs, ht⟩
  · injection e1 with a1 a2 a3; subst a1; subst a3
    exact ⟨by omega, by unfold maxLen; omega, Or.inl ⟨h3, rfl⟩⟩
  · injection e1 with a1 a2 a3; subst a1; subst a3
    have hr := (RowAt.of_owns h0).same fun o ho => iL_get zs o (by rw [hl]; exact ho)
    rw [Nat.mul_one] at hr
    exact ⟨hn, hm, Or.inr ⟨g, rfl, hg, hr.lt, hr⟩⟩
theorem ownsI_empty (w : World) (e : TypeId) : (w.alloc (.cells #[] e)).ownsRow w.heap.size e 1 (.slice (some ⟨w.heap.size, 0, none⟩) 0 0) 0 (iL []) := by
  refine ⟨rfl, Or.inr ⟨w.heap.size, 0, #[], rfl, Nat.le_refl _, ?_, Nat.le_refl _, by unfold maxLen; omega, rfl, rfl⟩⟩
  show (w.heap.push (.cells #[] e))[w.heap.size]? = _
  simp

/-- The m numbers ys lie where the slice says. -/
def SrcI (w : World) (yv : Option Addr) (m : Nat) (ys : List Int) : Prop := ys.length = m ∧ (m = 0 ∨ ∃ b off, yv = some ⟨b, off, none⟩ ∧ ∀ j, j < m → w.cell? ⟨b, off + j, none⟩ = some (.int .i64 (ys.getD j 0)))

theorem src_one (w : World) (x : Int) (t : TypeId) : SrcI (w.alloc (.cells #[.int .i64 x] t)) (some ⟨w.heap.size, 0, none⟩) 1 [x] :=
  ⟨rfl, Or.inr ⟨w.heap.size, 0, rfl, fun j hj => by
    have e : j = 0 := by omega
    subst e; simp⟩⟩

theorem wpList_appI {w : World} {ops : Array Oper} {rest : List Oper} {o : Oper} {a : Act} {Q : Exit → Act → World → Prop} (hw : Region.wanted o (yielded ops a.tmps) = true) (s x : Operand)
    (ho : o.op = .call { callee := .builtin .append, args := #[s, x], argTypes := #[27, 27] })
    (base : Nat) (xv : Option Addr) (xc n : Nat) (ns : List Int) (hn : ns.length = n) (hs : a.eval s = .slice xv n xc) (hown : w.ownsRow base 2 1 (.slice xv n xc) n (iL ns))
    (yv : Option Addr) (m yc : Nat) (ys : List Int) (hx : a.eval x = .slice yv m yc) (hy : SrcI w yv m ys) (hlen : n + m ≤ 100000000) (hbase : base ≤ w.heap.size)
    (h : ∀ av cap w', w'.ownsRow base 2 1 (.slice av (n + m) cap) (n + m) (iL (ns ++ ys)) → Below base w w' → wpList Tryz.prog ops Q rest (a.put o.dst (.slice av (n + m) cap)) w') : wpList Tryz.prog ops Q (o :: rest) a w := by
  obtain ⟨ti, hi1, hi2, hi3, hi4⟩ := infoI
  refine wpList_step fun K hK => ?_
  rw [if_pos hw]
  by_cases hm0 : m = 0
  · subst hm0
    have hys : ys = [] := List.eq_nil_of_length_eq_zero hy.1
    subst hys
    have hrun := run_append_zero (P := Tryz.prog) (w := w) base 27 o.type 2 ti 1 Tryz.underlying27 hi1 (.slice xv n xc) n (iL ns) hown yv yc
    unfold Oper.wp
    simp [execOp, ho, resolve, invoke, builtin, hs, hx, hrun, Result.andThen]
    refine hK _ _ (h xv xc w ?_ (Below.refl _ _))
    simpa using hown
  · rcases hy.2 with h0 | ⟨b, off, rfl, hc⟩
    · exact absurd h0 hm0
    have hnews : ∀ j u, (iL ys)[j]? = some u → w.cell? ((⟨b, off, none⟩ : Addr).add j) = some u := by
      intro j u hu
      have hj : j < m := by
        rw [← hy.1]
        have := (List.getElem?_eq_some_iff.1 hu).1
        simpa [iL] using this
      have e := hc j hj
      have e2 : (⟨b, off, none⟩ : Addr).add j = ⟨b, off + j, none⟩ := by unfold Addr.add; split <;> simp_all
      rw [e2, e]
      have hj2 : j < ys.length := by rw [hy.1]; exact hj
      simp [iL, hj2] at hu
      rw [← hu]
      simp [List.getD, hj2]
    refine wp_append_lies w s x 27 ho base 2 ti _ 1 8 Tryz.underlying27 hi1 hi2 hi3 hi4 rfl (by omega) (.slice xv n xc) n (iL ns) hs hown ⟨b, off, none⟩ m yc (iL ys) hx (by rw [iL_len, hy.1]) hnews (iL_one ys) (by omega) (by unfold maxLen; omega) (by omega) hbase _ rfl ?_
    intro g cap w' hown' hgrow hat hlt
    refine hK _ _ (h _ _ _ ?_ ?_)
    · have e : iL (ns ++ ys) = iL ns ++ iL ys := by simp [iL]
      rw [e]; exact hown'
    · exact (Below.refl base w).grown hgrow hbase (owns_base hown)

theorem getD_mem {zs : List Int} {i : Nat} (h : i < zs.length) : zs.getD i 0 ∈ zs := by
  have : zs.getD i 0 = zs[i] := by simp [List.getD, h]
  rw [this]; exact List.getElem_mem h

/-- Whether the number is among them. -/
def HasW (e : Ending) (zs : List Int) (x : Int) : Prop := ∃ b : Bool, e = .returned (.bool b) ∧ (b = true ↔ x ∈ zs)

set_option maxHeartbeats 2000000 in
theorem l4Has_any (av : Option Addr) (n c lo hi : Nat) (zs : List Int) (x : Int) (w : World) (hl : Hid (zs.length = n)) (h1 : MI w av n c lo hi (icell zs)) :
    Calls Tryz.prog 49 #[.slice av n c, .int .i64 x] w fun e w' => HasW e zs x ∧ w' = w := by
  have hm1 := h1.1
  have hm2 := h1.2.1
  unfold maxLen at hm2
  go_enter Tryz.func49, Tryz.ntmps49
  go_wp2_with fail
  go_loop [5] (fun i => ∃ p : Nat, p ≤ n ∧ i = .int .i64 p ∧ Hid (∀ j, j < p → ¬ zs.getD j 0 = x)) (fun i => n - (intOf i).toNat)
  case atStart => exact ⟨0, Nat.zero_le _, rfl, fun j hj => absurd hj (Nat.not_lt_zero _)⟩
  case round =>
    obtain ⟨p, hp, rfl, hall⟩ := hrel
    by_cases hlt : p < n
    · rcases h1.2.2 with ⟨h0, _⟩ | ⟨g, rfl, _, _, r1⟩
      · omega
      have hgl := r1.lt
      have i0 : (0 : Int) ≤ (p : Int) := by omega
      have i1 : (p : Int) < (n : Int) := by omega
      have d0 := r1.cell (o := p) hlt
      unfold icell at d0
      clear r1
      obtain ⟨y, hy⟩ : ∃ y, Hid (zs.getD p 0 = y) := ⟨_, rfl⟩
      rw [hy.out] at d0
      by_cases hq : y = x
      · have HM : Hid (x ∈ zs) := (by rw [← hq, ← hy.out]; exact getD_mem (by rw [hl.out]; exact hlt) : x ∈ zs)
        subst hq
        go_wp2_with fail
        go_ret
        exact ⟨⟨true, rfl, fun _ => HM.out, fun _ => rfl⟩, rfl⟩
      · have HQ : Hid (∀ j, j < p + 1 → ¬ zs.getD j 0 = x) := fun j hj => by
          by_cases e : j = p
          · rw [e, hy.out]; exact hq
          · exact hall.out j (by omega)
        have hqb : (y == x) = false := by simp [hq]
        go_wp2_with fail
        go_round
        case rel => exact ⟨p + 1, by omega, by go_num, HQ⟩
        case measure => simp [intOf]; omega
    · have HN : Hid (¬ x ∈ zs) := fun hx => by
        obtain ⟨i, hi, e⟩ := List.getElem_of_mem hx
        refine hall.out i (by rw [hl.out] at hi; omega) ?_
        simp [List.getD, hi, e]
      go_wp2_with fail
      go_ret
      exact ⟨⟨false, rfl, fun h => (by cases h), fun h => absurd h HN.out⟩, rfl⟩

/-- A list with one number more, where it belongs. -/
def PutW (w' : World) (e : Ending) (lo : Nat) (zs : List Int) (x : Int) : Prop := ∃ (av : Option Addr) (cap : Nat) (r : List Int), e = .returned (.slice av r.length cap) ∧ M1.PutI zs x r ∧ MI w' av r.length cap lo w'.heap.size (icell r)

set_option maxHeartbeats 8000000 in
set_option maxRecDepth 100000 in
theorem l4Put_any (av : Option Addr) (n c lo hi : Nat) (zs : List Int) (x : Int) (w : World) (hl : Hid (zs.length = n)) (h1 : MI w av n c lo hi (icell zs)) (hn : n ≤ 1048576) (hlo : lo ≤ w.heap.size) (hhi : hi ≤ w.heap.size) :
    Calls Tryz.prog 26 #[.slice av n c, .int .i64 x] w fun e w' => PutW w' e lo zs x ∧ Below w.heap.size w w' := by
  have hm1 := h1.1
  have hm2 := h1.2.1
  unfold maxLen at hm2
  go_enter Tryz.func26, Tryz.ntmps26
  go_wp2_with fail
  refine (l4Has_any _ _ _ _ _ _ _ _ hl h1).mono ?_
  rintro e w0 ⟨⟨b, rfl, hb⟩, rfl⟩
  cases b with
  | true =>
    have HM : Hid (x ∈ zs) := hb.1 rfl
    have el := hl.out
    go_wp2_with fail
    go_ret
    refine ⟨⟨av, c, zs, by rw [el]; rfl, Or.inl ⟨HM.out, rfl⟩, ?_⟩, Below.refl _ _⟩
    rw [el]; exact h1.wide (Nat.le_refl _) hhi
  | false =>
    have HN : Hid (¬ x ∈ zs) := fun h => by have := hb.2 h; cases this
    clear hb
    have HSRC : Hid (∀ (k : Nat), k ≤ n → ∀ W, Below w0.heap.size w0 W → (∀ g, av = some ⟨g, 0, none⟩ → SrcI W (some ⟨g, 0, none⟩) k (zs.take k) ∧ SrcI W (some ⟨g, k, none⟩) (n - k) (zs.drop k))) := fun k hk W hW g e => by
      rcases h1.2.2 with ⟨_, e0⟩ | ⟨g', e', _, _, r⟩
      · rw [e] at e0; cases e0
      · rw [e] at e'; injection e' with e'; injection e' with e'; subst e'
        have r' := r.below hW
        have hz := hl.out
        refine ⟨⟨by simp; omega, Or.inr ⟨g, 0, rfl, fun j hj => ?_⟩⟩, ⟨by simp; omega, Or.inr ⟨g, k, rfl, fun j hj => ?_⟩⟩⟩
        · rw [Nat.zero_add, r'.cell (o := j) (by omega)]
          simp [icell, List.getD, List.getElem?_take, hj]
        · rw [r'.cell (o := k + j) (by omega)]
          simp [icell, List.getD, List.getElem?_drop]
    go_wp2_with fail
    go_loop [5] (fun i => ∃ k : Nat, k ≤ n ∧ i = .int .i64 k ∧ Hid (∀ j, j < k → zs.getD j 0 < x)) (fun i => n - (intOf i).toNat)
    case atStart => exact ⟨0, Nat.zero_le _, rfl, fun j hj => absurd hj (Nat.not_lt_zero _)⟩
    case round =>
      obtain ⟨k, hk, rfl, hall⟩ := hrel
      by_cases hlt : k < n
      · rcases h1.2.2 with ⟨h0, _⟩ | ⟨g, rfl, _, _, r1⟩
        · omega
        have hgl := r1.lt
        have i0 : (0 : Int) ≤ (k : Int) := by omega
        have i1 : (k : Int) < (n : Int) := by omega
        have d0 := r1.cell (o := k) hlt
        unfold icell at d0
        clear r1
        obtain ⟨y, hy⟩ : ∃ y, Hid (zs.getD k 0 = y) := ⟨_, rfl⟩
        rw [hy.out] at d0
        by_cases hq : y < x
        · have HQ : Hid (∀ j, j < k + 1 → zs.getD j 0 < x) := fun j hj => by
            by_cases e : j = k
            · rw [e, hy.out]; exact hq
            · exact hall.out j (by omega)
          go_wp2_with fail
          go_round
          case rel => exact ⟨k + 1, by omega, by go_num, HQ⟩
          case measure => simp [intOf]; omega
        · have HP : Hid (∀ r, r = (zs.take k ++ [x]) ++ zs.drop k → M1.PutI zs x r) := fun r hr => Or.inr ⟨HN.out, k, by rw [hl.out]; exact hk, hall.out, Or.inr (by rw [hy.out]; exact hq), hr⟩
          have own0 := ownsI_empty w0 2
          have hA : Below w0.heap.size w0 (w0.alloc (.cells #[] 2)) := (Below.refl _ _).alloc (Nat.le_refl _) _
          have lt1 : Hid ((zs.take k).length = k) := (by have := hl.out; simp; omega : (zs.take k).length = k)
          have lt2 : Hid ((zs.take k ++ [x]).length = k + 1) := (by have := hl.out; simp; omega : (zs.take k ++ [x]).length = k + 1)
          have lt3 : Hid (((zs.take k ++ [x]) ++ zs.drop k).length = k + 1 + (n - k)) := (by have := hl.out; simp; omega : ((zs.take k ++ [x]) ++ zs.drop k).length = k + 1 + (n - k))
          go_wp2_with (at_builtin; first | (refine wpList_appI (by rfl) _ _ rfl w0.heap.size _ _ (k + 1) (zs.take k ++ [x]) lt2.out rfl own2 _ _ _ (zs.drop k) rfl (by first | exact (HSRC.out k hk _ hb2 g rfl).2 | (have q := (HSRC.out k hk _ hb2 g rfl).2; simpa using q) | exact ⟨by simp; omega, Or.inl (by omega)⟩) (by omega) hs2 ?_; intro a3 c3 w3 own3 hb3) | (refine wpList_appI (by rfl) _ _ rfl w0.heap.size _ _ k (zs.take k) lt1.out rfl (owns_below own1 ((Below.refl _ _).alloc (Nat.le_refl _) _)) _ _ _ [x] rfl (src_one w1 x _) (by omega) (by simp; omega) ?_; intro a2 c2 w2 own2 hb2; replace hb2 := (hb1.alloc hs1 _).trans hb2; have hs2 := hb2.size) | (refine wpList_appI (by rfl) _ _ rfl w0.heap.size _ _ 0 [] rfl rfl own0 _ _ _ (zs.take k) rfl (HSRC.out k hk _ hA g rfl).1 (by omega) (by simp) ?_; intro a1 c1 w1 own1 hb1; replace hb1 := hA.trans hb1; have hs1 := hb1.size; simp only [Nat.zero_add, List.nil_append] at own1 ⊢))
          go_ret
          have hb3' := hb2.trans hb3
          refine ⟨⟨a3, c3, (zs.take k ++ [x]) ++ zs.drop k, ?_, HP.out _ rfl, ?_⟩, hb3'⟩
          · rw [lt3.out]; rfl
          · rw [lt3.out]; exact (MI.of_owns lt3.out own3).wide hlo (Nat.le_refl _)
      · have HP : Hid (∀ r, r = (zs.take k ++ [x]) ++ zs.drop k → M1.PutI zs x r) := fun r hr => Or.inr ⟨HN.out, k, by rw [hl.out]; exact hk, hall.out, Or.inl (by rw [hl.out]; omega), hr⟩
        have hkn : k = n := by omega
        subst hkn
        rcases h1.2.2 with ⟨h0, rfl⟩ | ⟨g, rfl, _, _, r1⟩
        · subst h0
          have hz : zs = [] := List.eq_nil_of_length_eq_zero hl.out
          subst hz
          have own0 := ownsI_empty w0 2
          have hA : Below w0.heap.size w0 (w0.alloc (.cells #[] 2)) := (Below.refl _ _).alloc (Nat.le_refl _) _
          go_wp2_with (at_builtin; first | (refine wpList_appI (by rfl) _ _ rfl w0.heap.size _ _ 1 [x] rfl rfl own2 _ _ _ [] rfl ⟨rfl, Or.inl rfl⟩ (by omega) hs2 ?_; intro a3 c3 w3 own3 hb3) | (refine wpList_appI (by rfl) _ _ rfl w0.heap.size _ _ 0 [] rfl rfl (owns_below own1 ((Below.refl _ _).alloc (Nat.le_refl _) _)) _ _ _ [x] rfl (src_one w1 x _) (by omega) (by simp; omega) ?_; intro a2 c2 w2 own2 hb2; replace hb2 := (hb1.alloc hs1 _).trans hb2; have hs2 := hb2.size; simp only [Nat.zero_add, List.nil_append] at own2 ⊢) | (refine wpList_appI (by rfl) _ _ rfl w0.heap.size _ _ 0 [] rfl rfl own0 _ _ _ [] rfl ⟨rfl, Or.inl rfl⟩ (by omega) (by simp) ?_; intro a1 c1 w1 own1 hb1; replace hb1 := hA.trans hb1; have hs1 := hb1.size; simp only [Nat.zero_add, List.nil_append] at own1 ⊢))
          go_ret
          have hb3' := hb2.trans hb3
          exact ⟨⟨a3, c3, [x], rfl, HP.out _ rfl, (MI.of_owns rfl own3).wide hlo (Nat.le_refl _)⟩, hb3'⟩
        · have hgl := r1.lt
          clear r1
          have hd0 : Hid (zs.drop k = []) := List.drop_eq_nil_of_le (by rw [hl.out]; exact Nat.le_refl _)
          by_cases hck : k = c
          · subst hck
            have own0 := ownsI_empty w0 2
            have hA : Below w0.heap.size w0 (w0.alloc (.cells #[] 2)) := (Below.refl _ _).alloc (Nat.le_refl _) _
            have lt1 : Hid ((zs.take k).length = k) := (by have := hl.out; simp; omega : (zs.take k).length = k)
            have lt2 : Hid ((zs.take k ++ [x]).length = k + 1) := (by have := hl.out; simp; omega : (zs.take k ++ [x]).length = k + 1)
            go_wp2_with (at_builtin; first | (refine wpList_appI (by rfl) _ _ rfl w0.heap.size _ _ (k + 1) (zs.take k ++ [x]) lt2.out rfl own2 _ _ _ [] rfl ⟨rfl, Or.inl rfl⟩ (by omega) hs2 ?_; intro a3 c3 w3 own3 hb3) | (refine wpList_appI (by rfl) _ _ rfl w0.heap.size _ _ k (zs.take k) lt1.out rfl (owns_below own1 ((Below.refl _ _).alloc (Nat.le_refl _) _)) _ _ _ [x] rfl (src_one w1 x _) (by omega) (by simp; omega) ?_; intro a2 c2 w2 own2 hb2; replace hb2 := (hb1.alloc hs1 _).trans hb2; have hs2 := hb2.size) | (refine wpList_appI (by rfl) _ _ rfl w0.heap.size _ _ 0 [] rfl rfl own0 _ _ _ (zs.take k) rfl ((HSRC.out k hk _ hA g rfl).1) (by omega) (by simp) ?_; intro a1 c1 w1 own1 hb1; replace hb1 := hA.trans hb1; have hs1 := hb1.size; simp only [Nat.zero_add, List.nil_append] at own1 ⊢))
            go_ret
            have hb3' := hb2.trans hb3
            simp only [List.append_nil, Nat.add_zero] at own3
            refine ⟨⟨a3, c3, zs.take k ++ [x], ?_, HP.out _ (by rw [hd0.out, List.append_nil]), ?_⟩, hb3'⟩
            · rw [lt2.out]; rfl
            · rw [lt2.out]; exact (MI.of_owns lt2.out own3).wide hlo (Nat.le_refl _)
          · have hck2 : k < c := by omega
            have own0 := ownsI_empty w0 2
            have hA : Below w0.heap.size w0 (w0.alloc (.cells #[] 2)) := (Below.refl _ _).alloc (Nat.le_refl _) _
            have lt1 : Hid ((zs.take k).length = k) := (by have := hl.out; simp; omega : (zs.take k).length = k)
            have lt2 : Hid ((zs.take k ++ [x]).length = k + 1) := (by have := hl.out; simp; omega : (zs.take k ++ [x]).length = k + 1)
            go_wp2_with (at_builtin; first | (refine wpList_appI (by rfl) _ _ rfl w0.heap.size _ _ (k + 1) (zs.take k ++ [x]) lt2.out rfl own2 _ _ _ [] rfl ⟨rfl, Or.inl rfl⟩ (by omega) hs2 ?_; intro a3 c3 w3 own3 hb3) | (refine wpList_appI (by rfl) _ _ rfl w0.heap.size _ _ k (zs.take k) lt1.out rfl (owns_below own1 ((Below.refl _ _).alloc (Nat.le_refl _) _)) _ _ _ [x] rfl (src_one w1 x _) (by omega) (by simp; omega) ?_; intro a2 c2 w2 own2 hb2; replace hb2 := (hb1.alloc hs1 _).trans hb2; have hs2 := hb2.size) | (refine wpList_appI (by rfl) _ _ rfl w0.heap.size _ _ 0 [] rfl rfl own0 _ _ _ (zs.take k) rfl ((HSRC.out k hk _ hA g rfl).1) (by omega) (by simp) ?_; intro a1 c1 w1 own1 hb1; replace hb1 := hA.trans hb1; have hs1 := hb1.size; simp only [Nat.zero_add, List.nil_append] at own1 ⊢))
            go_ret
            have hb3' := hb2.trans hb3
            simp only [List.append_nil, Nat.add_zero] at own3
            refine ⟨⟨a3, c3, zs.take k ++ [x], ?_, HP.out _ (by rw [hd0.out, List.append_nil]), ?_⟩, hb3'⟩
            · rw [lt2.out]; rfl
            · rw [lt2.out]; exact (MI.of_owns lt2.out own3).wide hlo (Nat.le_refl _)
end Go.Proofs.YtpflbhjgnmkajaaGreat
