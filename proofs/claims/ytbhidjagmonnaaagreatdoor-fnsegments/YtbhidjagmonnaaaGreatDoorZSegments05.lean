/-
  Texts of one proof, joined: Math30.
-/
import Derived.Test.YtbhidjagmonnaaaGreatDoorZSegments04
namespace M1
open Go
def rdNs : List (List UInt8) → Option (List Int)
  | [] => some []
  | w :: t => match rdN w with
    | none => none
    | some n => match rdNs t with
      | none => none
      | some ns => some (n :: ns)
theorem rdNs_some : ∀ {ws : List (List UInt8)} {ns : List Int}, rdNs ws = some ns → ws = ns.map dcm ∧ ns.length = ws.length
  | [], ns, h => by
    have e : [] = ns := by simpa [rdNs] using h
    subst e; exact ⟨rfl, rfl⟩
  | w :: t, ns, h => by
    unfold rdNs at h
    cases e1 : rdN w with
    | none => rw [e1] at h; cases h
    | some n =>
      rw [e1] at h
      cases e2 : rdNs t with
      | none => rw [e2] at h; cases h
      | some ms =>
        rw [e2] at h
        have e3 : n :: ms = ns := by simpa using h
        subst e3
        obtain ⟨a, b⟩ := rdNs_some e2
        exact ⟨by rw [List.map_cons, (rdN_some e1).1, ← a], by simp [b]⟩
def tenD (n : Int) : Prop := 0 ≤ n ∧ n ≤ 9999999999
theorem rdNs_dcm : ∀ {ns : List Int}, (∀ n ∈ ns, tenD n) → rdNs (ns.map dcm) = some ns
  | [], _ => rfl
  | n :: t, h => by
    have h1 := h n List.mem_cons_self
    have h2 := rdNs_dcm (ns := t) fun x hx => h x (List.mem_cons_of_mem _ hx)
    rw [List.map_cons]
    unfold rdNs
    rw [rdN_dcm h1.1 h1.2, h2]
structure Chg where
  k : Int
  id : Int
  pa : Int
  s : ByteArray
  st : Int
  en : Int
  lv : Int
/-- What the words behind the head say, as the kind's word has it. -/
def rdC (w : List UInt8) (rest : List (List UInt8)) : Option Chg :=
  if w = wSpan ∧ rest.length = 5 then match rdNs (rest.take 4) with
    | none => none
    | some m => some ⟨1, m.getD 0 0, m.getD 1 0, mkB (rest.getD 4 []), m.getD 2 0, m.getD 3 0, 0⟩
  else if w = wKeep ∧ rest.length = 0 then some ⟨2, 0, 0, ByteArray.empty, 0, 0, 0⟩
  else if w = wLife ∧ rest.length = 1 then match rdN (rest.getD 0 []) with
    | none => none
    | some m => some ⟨3, 0, 0, ByteArray.empty, 0, 0, m⟩
  else none
def mkU (n : List Int) (c : Chg) : Upd := ⟨n.getD 0 0, n.getD 1 0, n.getD 2 0, n.getD 3 0, n.getD 0 0, c.k, n.getD 4 0, c.id, c.pa, c.s, c.st, c.en, c.lv⟩
def rdW (ws : List (List UInt8)) : Option Upd :=
  if ws.length < 6 then none else match rdNs ((ws.drop 1).take 5) with
    | none => none
    | some n => match rdC (ws.getD 0 []) (ws.drop 6) with
      | none => none
      | some c => if okU (mkU n c) = true then some (mkU n c) else none
theorem five {ns : List Int} (h : ns.length = 5) : ns = [ns.getD 0 0, ns.getD 1 0, ns.getD 2 0, ns.getD 3 0, ns.getD 4 0] := by
  match ns, h with
  | [a, b, c, d, e], _ => rfl
theorem four {ns : List Int} (h : ns.length = 4) : ns = [ns.getD 0 0, ns.getD 1 0, ns.getD 2 0, ns.getD 3 0] := by
  match ns, h with
  | [a, b, c, d], _ => rfl
theorem rdW_some {ws : List (List UInt8)} {u : Upd} (h : rdW ws = some u) : okU u = true ∧ ws = wrd u := by
  unfold rdW at h
  by_cases hl : ws.length < 6
  · rw [if_pos hl] at h; cases h
  rw [if_neg hl] at h
  cases e1 : rdNs ((ws.drop 1).take 5) with
  | none => rw [e1] at h; cases h
  | some n =>
    rw [e1] at h
    cases e2 : rdC (ws.getD 0 []) (ws.drop 6) with
    | none => rw [e2] at h; cases h
    | some c =>
      rw [e2] at h
      simp only at h
      by_cases ok : okU (mkU n c) = true
      · rw [if_pos ok] at h
        injection h with e
        subst e
        refine ⟨ok, ?_⟩
        obtain ⟨a1, a2⟩ := rdNs_some e1
        have hn : n.length = 5 := by rw [a2]; simp; omega
        have hws : ws = ws.getD 0 [] :: ((ws.drop 1).take 5 ++ ws.drop 6) := by
          match ws, hl with
          | w :: t, _ =>
            have : t.take 5 ++ t.drop 5 = t := List.take_append_drop 5 t
            simp
        have e5 : n.map dcm = (ns5 (mkU n c)).map dcm := by
          have := five hn
          unfold ns5 mkU
          rw [← this]
        rw [hws]
        generalize (ws.drop 1).take 5 = mid at a1
        generalize ws.drop 6 = rest at e2
        generalize ws.getD 0 [] = w0 at e2
        clear hws e1 a2 hl
        rw [a1]
        unfold rdC at e2
        by_cases c1 : w0 = wSpan ∧ rest.length = 5
        · rw [if_pos c1] at e2
          cases e3 : rdNs (rest.take 4) with
          | none => rw [e3] at e2; cases e2
          | some m =>
            rw [e3] at e2
            injection e2 with e2
            subst e2
            obtain ⟨b1, b2⟩ := rdNs_some e3
            have hm : m.length = 4 := by rw [b2, List.length_take]; omega
            rw [c1.1, e5]
            unfold wrd
            have hk : (mkU n ⟨1, m.getD 0 0, m.getD 1 0, mkB (rest.getD 4 []), m.getD 2 0, m.getD 3 0, 0⟩).k = 1 := rfl
            rw [if_pos hk]
            congr 1
            rw [List.append_assoc]
            congr 1
            have h4 : rest = rest.take 4 ++ [rest.getD 4 []] := by
              match hq : rest, c1.2 with
              | [x0, x1, x2, x3, x4], _ => rfl
            have h5 := four hm
            have e6 : [m.getD 0 0, m.getD 1 0, m.getD 2 0, m.getD 3 0].map dcm = m.map dcm := by rw [← h5]
            show rest = [m.getD 0 0, m.getD 1 0, m.getD 2 0, m.getD 3 0].map dcm ++ [(mkB (rest.getD 4 [])).data.toList]
            rw [e6, mkB_toList, ← b1]
            exact h4
        · rw [if_neg c1] at e2
          by_cases c2 : w0 = wKeep ∧ rest.length = 0
          · rw [if_pos c2] at e2
            injection e2 with e2
            subst e2
            have h6 : rest = [] := List.eq_nil_of_length_eq_zero c2.2
            rw [c2.1, e5, h6, List.append_nil]
            rfl
          · rw [if_neg c2] at e2
            by_cases c3 : w0 = wLife ∧ rest.length = 1
            · rw [if_pos c3] at e2
              cases e3 : rdN (rest.getD 0 []) with
              | none => rw [e3] at e2; cases e2
              | some m =>
                rw [e3] at e2
                injection e2 with e2
                subst e2
                have h6 : rest = [rest.getD 0 []] := by
                  match hq : rest, c3.2 with
                  | [x0], _ => rfl
                rw [c3.1, e5, h6]
                have := (rdN_some e3).1
                show wLife :: (_ ++ [_]) = wLife :: (_ ++ [m].map dcm)
                rw [List.map_cons, this]
                simp
            · rw [if_neg c3] at e2; cases e2
      · rw [if_neg ok] at h; cases h
theorem okU_fields {u : Upd} (h : okU u = true) : dotOk u.dr u.dn = true ∧ stOk u.sw u.sc u.sr = true ∧ u.sr = u.dr ∧ inB u.tr 1 1000 = true ∧ kindB u.k u.id u.pa u.s u.st u.en u.lv = true := by
  unfold okU updB headB at h
  simp only [Bool.and_eq_true, decide_eq_true_eq] at h
  exact ⟨h.1.1.1.1, h.1.1.1.2, h.1.1.2, h.1.2, h.2⟩
theorem okU_tens {u : Upd} (h : okU u = true) : (∀ n ∈ ns5 u, tenD n) ∧ (u.k = 1 → ∀ n ∈ [u.id, u.pa, u.st, u.en], tenD n) ∧ (u.k = 3 → tenD u.lv) ∧ (u.k = 1 ∨ u.k = 2 ∨ u.k = 3) := by
  obtain ⟨h1, h2, h3, h4, h5⟩ := okU_fields h
  unfold dotOk inB at h1
  unfold stOk inB at h2
  unfold inB at h4
  simp only [Bool.and_eq_true, decide_eq_true_eq] at h1 h2 h4
  refine ⟨fun n hn => ?_, fun hk n hn => ?_, fun hk => ?_, ?_⟩
  · unfold ns5 at hn
    simp only [List.mem_cons, List.not_mem_nil, or_false] at hn
    unfold tenD
    rcases hn with e | e | e | e | e <;> omega
  · unfold kindB at h5
    rw [if_pos hk] at h5
    unfold spanB inB at h5
    simp only [Bool.and_eq_true, decide_eq_true_eq] at h5
    simp only [List.mem_cons, List.not_mem_nil, or_false] at hn
    unfold tenD
    rcases hn with e | e | e | e <;> omega
  · unfold kindB at h5
    rw [if_neg (by omega), if_neg (by omega), if_pos hk] at h5
    unfold inB at h5
    simp only [Bool.and_eq_true, decide_eq_true_eq] at h5
    unfold tenD
    omega
  · unfold kindB at h5
    by_cases c1 : u.k = 1
    · exact Or.inl c1
    · by_cases c2 : u.k = 2
      · exact Or.inr (Or.inl c2)
      · by_cases c3 : u.k = 3
        · exact Or.inr (Or.inr c3)
        · rw [if_neg c1, if_neg c2, if_neg c3] at h5; cases h5
theorem zero_span {id pa st en : Int} {s : ByteArray} (h : zeroB id pa s st en = true) : id = 0 ∧ pa = 0 ∧ s = ByteArray.empty ∧ st = 0 ∧ en = 0 := by
  unfold zeroB at h
  simp only [Bool.and_eq_true, decide_eq_true_eq] at h
  refine ⟨h.1.1.1.1, h.1.1.1.2, ?_, h.1.2, h.2⟩
  have hs := h.1.1.2
  have h2 : s.data.toList = [] := by rw [← Go.ByteArray.toList_eq]; exact hs
  rw [← mkB_of s, h2]
  rfl
theorem rdW_wrd {u : Upd} (h : okU u = true) : rdW (wrd u) = some u := by
  obtain ⟨t1, t2, t3, t4⟩ := okU_tens h
  obtain ⟨_, _, hsr, _, hkind⟩ := okU_fields h
  have n5 : rdNs ((ns5 u).map dcm) = some (ns5 u) := rdNs_dcm t1
  rcases t4 with hk | hk | hk
  · have e : wrd u = wSpan :: ((ns5 u).map dcm ++ [u.id, u.pa, u.st, u.en].map dcm ++ [u.s.data.toList]) := by unfold wrd; rw [if_pos hk]
    have n4 : rdNs ([u.id, u.pa, u.st, u.en].map dcm) = some [u.id, u.pa, u.st, u.en] := rdNs_dcm (t2 hk)
    have hlv : u.lv = 0 := by
      unfold kindB at hkind
      rw [if_pos hk] at hkind
      simp only [Bool.and_eq_true, beq_iff_eq] at hkind
      exact hkind.2
    rw [e]
    unfold rdW
    rw [if_neg (by simp [ns5])]
    have e1 : ((wSpan :: ((ns5 u).map dcm ++ [u.id, u.pa, u.st, u.en].map dcm ++ [u.s.data.toList])).drop 1).take 5 = (ns5 u).map dcm := by simp [ns5]
    have e2 : (wSpan :: ((ns5 u).map dcm ++ [u.id, u.pa, u.st, u.en].map dcm ++ [u.s.data.toList])).drop 6 = [u.id, u.pa, u.st, u.en].map dcm ++ [u.s.data.toList] := by simp [ns5]
    rw [e1, e2, n5]
    unfold rdC
    rw [if_pos (by simp)]
    have e3 : ([u.id, u.pa, u.st, u.en].map dcm ++ [u.s.data.toList]).take 4 = [u.id, u.pa, u.st, u.en].map dcm := by simp
    rw [e3, n4]
    have e4 : ([u.id, u.pa, u.st, u.en].map dcm ++ [u.s.data.toList]).getD 4 [] = u.s.data.toList := by simp
    rw [e4, mkB_of]
    have e5 : mkU (ns5 u) ⟨1, [u.id, u.pa, u.st, u.en].getD 0 0, [u.id, u.pa, u.st, u.en].getD 1 0, u.s, [u.id, u.pa, u.st, u.en].getD 2 0, [u.id, u.pa, u.st, u.en].getD 3 0, 0⟩ = u := upd_ext rfl rfl rfl rfl hsr.symm hk.symm rfl rfl rfl rfl rfl rfl hlv.symm
    simp only [e5, if_pos h]
  · have e : wrd u = wKeep :: (ns5 u).map dcm := by unfold wrd; rw [if_neg (by omega), if_pos hk]
    have hz : u.id = 0 ∧ u.pa = 0 ∧ u.s = ByteArray.empty ∧ u.st = 0 ∧ u.en = 0 ∧ u.lv = 0 := by
      unfold kindB at hkind
      rw [if_neg (by omega), if_pos hk] at hkind
      simp only [Bool.and_eq_true, beq_iff_eq] at hkind
      obtain ⟨a, b, c, d, f⟩ := zero_span hkind.1
      exact ⟨a, b, c, d, f, hkind.2⟩
    rw [e]
    unfold rdW
    rw [if_neg (by simp [ns5])]
    have e1 : ((wKeep :: (ns5 u).map dcm).drop 1).take 5 = (ns5 u).map dcm := by simp [ns5]
    have e2 : (wKeep :: (ns5 u).map dcm).drop 6 = [] := by simp [ns5]
    rw [e1, e2, n5]
    have e3 : rdC ((wKeep :: (ns5 u).map dcm).getD 0 []) [] = some ⟨2, 0, 0, ByteArray.empty, 0, 0, 0⟩ := rfl
    rw [e3]
    have e5 : mkU (ns5 u) ⟨2, 0, 0, ByteArray.empty, 0, 0, 0⟩ = u := upd_ext rfl rfl rfl rfl hsr.symm hk.symm rfl hz.1.symm hz.2.1.symm hz.2.2.1.symm hz.2.2.2.1.symm hz.2.2.2.2.1.symm hz.2.2.2.2.2.symm
    simp only [e5, if_pos h]
  · have e : wrd u = wLife :: ((ns5 u).map dcm ++ [u.lv].map dcm) := by unfold wrd; rw [if_neg (by omega), if_neg (by omega)]
    have hz : u.id = 0 ∧ u.pa = 0 ∧ u.s = ByteArray.empty ∧ u.st = 0 ∧ u.en = 0 := by
      unfold kindB at hkind
      rw [if_neg (by omega), if_neg (by omega), if_pos hk] at hkind
      simp only [Bool.and_eq_true] at hkind
      exact zero_span hkind.1
    rw [e]
    unfold rdW
    rw [if_neg (by simp [ns5])]
    have e1 : ((wLife :: ((ns5 u).map dcm ++ [u.lv].map dcm)).drop 1).take 5 = (ns5 u).map dcm := by simp [ns5]
    have e2 : (wLife :: ((ns5 u).map dcm ++ [u.lv].map dcm)).drop 6 = [dcm u.lv] := by simp [ns5]
    rw [e1, e2, n5]
    have e3 : rdC ((wLife :: ((ns5 u).map dcm ++ [u.lv].map dcm)).getD 0 []) [dcm u.lv] = some ⟨3, 0, 0, ByteArray.empty, 0, 0, u.lv⟩ := by
      unfold rdC
      rw [if_neg (by simp), if_neg (by simp), if_pos (by simp)]
      have := t3 hk
      rw [show [dcm u.lv].getD 0 [] = dcm u.lv from rfl, rdN_dcm this.1 this.2]
    rw [e3]
    have e5 : mkU (ns5 u) ⟨3, 0, 0, ByteArray.empty, 0, 0, u.lv⟩ = u := upd_ext rfl rfl rfl rfl hsr.symm hk.symm rfl hz.1.symm hz.2.1.symm hz.2.2.1.symm hz.2.2.2.1.symm hz.2.2.2.2.symm rfl
    simp only [e5, if_pos h]
end M1
