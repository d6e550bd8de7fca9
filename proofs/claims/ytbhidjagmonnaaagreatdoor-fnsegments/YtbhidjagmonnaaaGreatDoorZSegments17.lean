/-
  Texts of one proof, joined: Rd3.
-/
import Derived.Test.YtbhidjagmonnaaaGreatDoorZSegments15
import Derived.Test.YtbhidjagmonnaaaGreatDoorZSegments16
namespace Go.Proofs.YtbhidjagmonnaaaGreatDoor
open Go.ChangeShapes Go.WideShapes Go.ChangeAt Go.RowKit
set_option linter.unusedSimpArgs false
set_option linter.unusedVariables false

theorem numW_dcm {xs : List ByteArray} {i : Nat} {n : Int} (h : xs[i]? = some (M1.mkB (M1.dcm n))) (ht : M1.tenD n) : numW xs i = n := by
  have hi := (List.getElem?_eq_some_iff.1 h).1
  have e : xs.getD i ByteArray.empty = M1.mkB (M1.dcm n) := by rw [List.getD_eq_getElem?_getD, h]; rfl
  have h2 := M1.rdN_dcm ht.1 ht.2
  unfold M1.rdN at h2
  unfold numW
  rw [if_pos hi, e, M1.mkB_toList]
  split at h2
  · rename_i hn
    rw [if_pos hn]
    exact Option.some.inj h2
  · cases h2
/-- What the model takes the words for. -/
def guU (xs : List ByteArray) : M1.Upd :=
  if (xs.getD 0 ByteArray.empty).data.toList = M1.wSpan then ⟨numW xs 1, numW xs 2, numW xs 3, numW xs 4, numW xs 1, 1, numW xs 5, numW xs 6, numW xs 7, if 10 < xs.length then xs.getD 10 ByteArray.empty else ByteArray.empty, numW xs 8, numW xs 9, 0⟩
  else if (xs.getD 0 ByteArray.empty).data.toList = M1.wKeep then ⟨numW xs 1, numW xs 2, numW xs 3, numW xs 4, numW xs 1, 2, numW xs 5, 0, 0, ByteArray.empty, 0, 0, 0⟩
  else if (xs.getD 0 ByteArray.empty).data.toList = M1.wLife then ⟨numW xs 1, numW xs 2, numW xs 3, numW xs 4, numW xs 1, 3, numW xs 5, 0, 0, ByteArray.empty, 0, 0, numW xs 6⟩
  else ⟨numW xs 1, numW xs 2, numW xs 3, numW xs 4, numW xs 1, 0, numW xs 5, 0, 0, ByteArray.empty, 0, 0, 0⟩
theorem gu_wrd {u : M1.Upd} (ok : M1.okU u = true) : guU ((M1.wrd u).map M1.mkB) = u := by
  obtain ⟨t1, t2, t3, t4⟩ := M1.okU_tens ok
  obtain ⟨_, _, hsr, _, hkind⟩ := M1.okU_fields ok
  have a0 := t1 u.dr (by simp [M1.ns5])
  have a1 := t1 u.dn (by simp [M1.ns5])
  have a2 := t1 u.sw (by simp [M1.ns5])
  have a3 := t1 u.sc (by simp [M1.ns5])
  have a4 := t1 u.tr (by simp [M1.ns5])
  rcases t4 with hk | hk | hk
  · have e : (M1.wrd u).map M1.mkB = [M1.mkB M1.wSpan, M1.mkB (M1.dcm u.dr), M1.mkB (M1.dcm u.dn), M1.mkB (M1.dcm u.sw), M1.mkB (M1.dcm u.sc), M1.mkB (M1.dcm u.tr), M1.mkB (M1.dcm u.id), M1.mkB (M1.dcm u.pa), M1.mkB (M1.dcm u.st), M1.mkB (M1.dcm u.en), u.s] := by
      unfold M1.wrd M1.ns5
      rw [if_pos hk]
      simp [M1.mkB_of]
    have b0 := t2 hk u.id (by simp)
    have b1 := t2 hk u.pa (by simp)
    have b2 := t2 hk u.st (by simp)
    have b3 := t2 hk u.en (by simp)
    have hlv : u.lv = 0 := by
      unfold M1.kindB at hkind
      rw [if_pos hk] at hkind
      simp only [Bool.and_eq_true, beq_iff_eq] at hkind
      exact hkind.2
    rw [e]
    unfold guU
    rw [if_pos (by rfl), if_pos (by simp)]
    rw [numW_dcm (n := u.dr) rfl a0, numW_dcm (n := u.dn) rfl a1, numW_dcm (n := u.sw) rfl a2, numW_dcm (n := u.sc) rfl a3, numW_dcm (n := u.tr) rfl a4, numW_dcm (n := u.id) rfl b0, numW_dcm (n := u.pa) rfl b1, numW_dcm (n := u.st) rfl b2, numW_dcm (n := u.en) rfl b3]
    exact M1.upd_ext rfl rfl rfl rfl hsr.symm hk.symm rfl rfl rfl rfl rfl rfl hlv.symm
  · have e : (M1.wrd u).map M1.mkB = [M1.mkB M1.wKeep, M1.mkB (M1.dcm u.dr), M1.mkB (M1.dcm u.dn), M1.mkB (M1.dcm u.sw), M1.mkB (M1.dcm u.sc), M1.mkB (M1.dcm u.tr)] := by
      unfold M1.wrd M1.ns5
      rw [if_neg (by omega), if_pos hk]
      simp
    have hz : u.id = 0 ∧ u.pa = 0 ∧ u.s = ByteArray.empty ∧ u.st = 0 ∧ u.en = 0 ∧ u.lv = 0 := by
      unfold M1.kindB at hkind
      rw [if_neg (by omega), if_pos hk] at hkind
      simp only [Bool.and_eq_true, beq_iff_eq] at hkind
      obtain ⟨a, b, c, d, f⟩ := M1.zero_span hkind.1
      exact ⟨a, b, c, d, f, hkind.2⟩
    rw [e]
    unfold guU
    simp only [List.getD_cons_zero, M1.mkB_toList]
    rw [if_neg (show ¬ M1.wKeep = M1.wSpan by decide), if_pos True.intro]
    rw [numW_dcm (n := u.dr) rfl a0, numW_dcm (n := u.dn) rfl a1, numW_dcm (n := u.sw) rfl a2, numW_dcm (n := u.sc) rfl a3, numW_dcm (n := u.tr) rfl a4]
    exact M1.upd_ext rfl rfl rfl rfl hsr.symm hk.symm rfl hz.1.symm hz.2.1.symm hz.2.2.1.symm hz.2.2.2.1.symm hz.2.2.2.2.1.symm hz.2.2.2.2.2.symm
  · have e : (M1.wrd u).map M1.mkB = [M1.mkB M1.wLife, M1.mkB (M1.dcm u.dr), M1.mkB (M1.dcm u.dn), M1.mkB (M1.dcm u.sw), M1.mkB (M1.dcm u.sc), M1.mkB (M1.dcm u.tr), M1.mkB (M1.dcm u.lv)] := by
      unfold M1.wrd M1.ns5
      rw [if_neg (by omega), if_neg (by omega)]
      simp
    have hz : u.id = 0 ∧ u.pa = 0 ∧ u.s = ByteArray.empty ∧ u.st = 0 ∧ u.en = 0 := by
      unfold M1.kindB at hkind
      rw [if_neg (by omega), if_neg (by omega), if_pos hk] at hkind
      simp only [Bool.and_eq_true] at hkind
      exact M1.zero_span hkind.1
    have b0 := t3 hk
    rw [e]
    unfold guU
    simp only [List.getD_cons_zero, M1.mkB_toList]
    rw [if_neg (show ¬ M1.wLife = M1.wSpan by decide), if_neg (show ¬ M1.wLife = M1.wKeep by decide), if_pos True.intro]
    rw [numW_dcm (n := u.dr) rfl a0, numW_dcm (n := u.dn) rfl a1, numW_dcm (n := u.sw) rfl a2, numW_dcm (n := u.sc) rfl a3, numW_dcm (n := u.tr) rfl a4, numW_dcm (n := u.lv) rfl b0]
    exact M1.upd_ext rfl rfl rfl rfl hsr.symm hk.symm rfl hz.1.symm hz.2.1.symm hz.2.2.1.symm hz.2.2.2.1.symm hz.2.2.2.2.symm rfl
theorem gu_yes {s : ByteArray} (h : M1.utx (guU (wB s.data.toList)) = s) (hn : ¬ s = ByteArray.empty) : M1.rdU s.data.toList = some (guU (wB s.data.toList)) := by
  refine M1.rdU_iff.2 ?_
  unfold M1.utx at h
  split at h
  · rename_i ok
    refine ⟨ok, ?_⟩
    have := congrArg (fun x : ByteArray => x.data.toList) h
    exact this.symm
  · exact absurd h.symm hn
theorem gu_no {s : ByteArray} (h : ¬ (M1.utx (guU (wB s.data.toList)) = s ∧ ¬ s = ByteArray.empty)) : M1.rdU s.data.toList = none := by
  cases e : M1.rdU s.data.toList with
  | none => rfl
  | some u =>
    exfalso
    obtain ⟨ok, hl⟩ := M1.rdU_iff.1 e
    have hw : wB s.data.toList = (M1.wrd u).map M1.mkB := by
      unfold wB
      rw [hl, ← M1.join_wrd, M1.spl_join (M1.wrd_ne u) (M1.wrd_no32 ok)]
    refine h ⟨?_, fun e2 => ?_⟩
    · rw [hw, gu_wrd ok]
      unfold M1.utx
      rw [if_pos ok, ← hl, M1.mkB_of]
    · rw [e2] at hl
      exact M1.txt_ne u hl.symm
theorem rdU_long {s : ByteArray} (h : 200 < s.size) : M1.rdU s.data.toList = none := by
  cases e : M1.rdU s.data.toList with
  | none => rfl
  | some u =>
    exfalso
    obtain ⟨ok, hl⟩ := M1.rdU_iff.1 e
    have := M1.txt_len ok
    rw [← hl, M1.len_list] at this
    omega
theorem wds_of_owns {w : World} {base g n c : Nat} {xs : List ByteArray} (hl : xs.length = n) (h : w.ownsRow base 9 1 (.slice (some ⟨g, 0, none⟩) n c) n (sV xs)) : WdsIn w g n c xs := by
  have hc := join_cells h
  rcases h.2 with ⟨e1, _⟩ | ⟨g2, cap2, cur, e1, _, hh, hn, hm, _⟩
  · cases e1
  · injection e1 with a1 _ a3
    injection a1 with a1; injection a1 with a1 _ _
    subst a1; subst a3
    refine ⟨hl, hn, hm, (Array.getElem?_eq_some_iff.1 hh).1, fun i hi => ?_⟩
    have hi2 : i < xs.length := by omega
    have := hc i xs[i] (List.getElem?_eq_getElem hi2)
    rw [Nat.zero_add] at this
    rw [this]
    simp [List.getD, hi2]
theorem wB_size {s : ByteArray} (hs : s.size ≤ 200) : ∀ x ∈ wB s.data.toList, x.size ≤ 200 := fun x hx => by
  unfold wB at hx
  obtain ⟨y, hy, e⟩ := List.mem_map.1 hx
  rw [← e, M1.mkB_size]
  have h := M1.join_spl s.data.toList
  have hlen : ∀ (ws : List (List UInt8)) (y : List UInt8), y ∈ ws → y.length ≤ (Lib.join ws [32]).length := by
    intro ws
    induction ws with
    | nil => intro y hy; cases hy
    | cons a t ih =>
      intro y hy
      cases t with
      | nil =>
        have e : y = a := by simpa using hy
        rw [e, Lib.join_one]; exact Nat.le_refl _
      | cons b r =>
        rw [M1.join_cons2, List.length_append, List.length_cons]
        rcases List.mem_cons.1 hy with e | hy
        · rw [e]; omega
        · have := ih y hy; omega
  have := hlen _ y hy
  rw [h, M1.len_list] at this
  omega
/-- What a reader of updates answers. -/
def RdW (l : List UInt8) : Value := match M1.rdU l with
  | none => .tuple #[.agg #[.int .i64 0, .int .i64 0, .int .i64 0, .int .i64 0, .int .i64 0, .int .i64 0, .int .i64 0, .int .i64 0, .int .i64 0, .string ByteArray.empty, .int .i64 0, .int .i64 0, .int .i64 0], .bool false]
  | some u => .tuple #[.agg #[.int .i64 u.dr, .int .i64 u.dn, .int .i64 u.sw, .int .i64 u.sc, .int .i64 u.sr, .int .i64 u.k, .int .i64 u.tr, .int .i64 u.id, .int .i64 u.pa, .string u.s, .int .i64 u.st, .int .i64 u.en, .int .i64 u.lv], .bool true]
theorem rdW_none {l : List UInt8} (h : M1.rdU l = none) : RdW l = .tuple #[.agg #[.int .i64 0, .int .i64 0, .int .i64 0, .int .i64 0, .int .i64 0, .int .i64 0, .int .i64 0, .int .i64 0, .int .i64 0, .string ByteArray.empty, .int .i64 0, .int .i64 0, .int .i64 0], .bool false] := by unfold RdW; rw [h]
theorem rdW_some {l : List UInt8} {u : M1.Upd} (h : M1.rdU l = some u) : RdW l = .tuple #[.agg #[.int .i64 u.dr, .int .i64 u.dn, .int .i64 u.sw, .int .i64 u.sc, .int .i64 u.sr, .int .i64 u.k, .int .i64 u.tr, .int .i64 u.id, .int .i64 u.pa, .string u.s, .int .i64 u.st, .int .i64 u.en, .int .i64 u.lv], .bool true] := by unfold RdW; rw [h]

theorem tl_iff {x : ByteArray} {l : List UInt8} : (x.toList == l) = true ↔ x.data.toList = l := by rw [beq_iff_eq, Go.ByteArray.toList_eq]
theorem tl_same {x s : ByteArray} (h : x.toList = s.toList) : x = s := by
  rw [Go.ByteArray.toList_eq, Go.ByteArray.toList_eq] at h
  rw [← M1.mkB_of x, h, M1.mkB_of]
theorem tl_empty {s : ByteArray} : s.toList.isEmpty = true ↔ s = ByteArray.empty := by
  rw [Go.ByteArray.toList_eq, List.isEmpty_iff]
  constructor
  · intro h; rw [← M1.mkB_of s, h]; rfl
  · intro h; rw [h]; rfl
theorem rd_yes {s x : ByteArray} {u : M1.Upd} (hg : guU (wB s.data.toList) = u) (hx : M1.utx u = x) (h1 : x.toList = s.toList) (h2 : s.toList.isEmpty = false) : RdW s.data.toList = .tuple #[.agg #[.int .i64 u.dr, .int .i64 u.dn, .int .i64 u.sw, .int .i64 u.sc, .int .i64 u.sr, .int .i64 u.k, .int .i64 u.tr, .int .i64 u.id, .int .i64 u.pa, .string u.s, .int .i64 u.st, .int .i64 u.en, .int .i64 u.lv], .bool true] := by
  have e := tl_same h1
  refine rdW_some ?_
  rw [← hg]
  refine gu_yes (by rw [hg, hx, e]) fun e2 => ?_
  rw [tl_empty.2 e2] at h2; cases h2
theorem rd_no1 {s x : ByteArray} {u : M1.Upd} (hg : guU (wB s.data.toList) = u) (hx : M1.utx u = x) (h1 : ¬ x.toList = s.toList) : RdW s.data.toList = .tuple #[.agg #[.int .i64 0, .int .i64 0, .int .i64 0, .int .i64 0, .int .i64 0, .int .i64 0, .int .i64 0, .int .i64 0, .int .i64 0, .string ByteArray.empty, .int .i64 0, .int .i64 0, .int .i64 0], .bool false] :=
  rdW_none (gu_no fun h => h1 (by rw [hg, hx] at h; rw [h.1]))
theorem rd_no2 {s : ByteArray} (h2 : s.toList.isEmpty = true) : RdW s.data.toList = .tuple #[.agg #[.int .i64 0, .int .i64 0, .int .i64 0, .int .i64 0, .int .i64 0, .int .i64 0, .int .i64 0, .int .i64 0, .int .i64 0, .string ByteArray.empty, .int .i64 0, .int .i64 0, .int .i64 0], .bool false] :=
  rdW_none (gu_no fun h => h.2 (tl_empty.1 h2))
/-- The cells of an update in a box. -/
def uq (u : M1.Upd) (o : Nat) : Value := [.int .i64 u.dr, .int .i64 u.dn, .int .i64 u.sw, .int .i64 u.sc, .int .i64 u.sr, .int .i64 u.k, .int .i64 u.tr, .int .i64 u.id, .int .i64 u.pa, .string u.s, .int .i64 u.st, .int .i64 u.en, .int .i64 u.lv].getD o undef
theorem uq_same {f f' : Nat → Value} (h0 : f 0 = f' 0) (h1 : f 1 = f' 1) (h2 : f 2 = f' 2) (h3 : f 3 = f' 3) (h4 : f 4 = f' 4) (h5 : f 5 = f' 5) (h6 : f 6 = f' 6) (h7 : f 7 = f' 7) (h8 : f 8 = f' 8) (h9 : f 9 = f' 9) (h10 : f 10 = f' 10) (h11 : f 11 = f' 11) (h12 : f 12 = f' 12) : ∀ o, o < 13 → f o = f' o := fun o ho => by
  match o, ho with
  | 0, _ => exact h0
  | 1, _ => exact h1
  | 2, _ => exact h2
  | 3, _ => exact h3
  | 4, _ => exact h4
  | 5, _ => exact h5
  | 6, _ => exact h6
  | 7, _ => exact h7
  | 8, _ => exact h8
  | 9, _ => exact h9
  | 10, _ => exact h10
  | 11, _ => exact h11
  | 12, _ => exact h12
theorem uq_new (w : World) (u : M1.Upd) (t : TypeId) : RowAt (w.alloc (.cells #[.int .i64 u.dr, .int .i64 u.dn, .int .i64 u.sw, .int .i64 u.sc, .int .i64 u.sr, .int .i64 u.k, .int .i64 u.tr, .int .i64 u.id, .int .i64 u.pa, .string u.s, .int .i64 u.st, .int .i64 u.en, .int .i64 u.lv] t)) w.heap.size 13 (uq u) :=
  (RowAt.new w #[.int .i64 u.dr, .int .i64 u.dn, .int .i64 u.sw, .int .i64 u.sc, .int .i64 u.sr, .int .i64 u.k, .int .i64 u.tr, .int .i64 u.id, .int .i64 u.pa, .string u.s, .int .i64 u.st, .int .i64 u.en, .int .i64 u.lv] t).same (uq_same rfl rfl rfl rfl rfl rfl rfl rfl rfl rfl rfl rfl rfl)
theorem uq_cells {w : World} {p : Nat} {u : M1.Upd} (h : RowAt w p 13 (uq u)) : w.cell? ⟨p, 0, none⟩ = some (.int .i64 u.dr) ∧ w.cell? ⟨p, 1, none⟩ = some (.int .i64 u.dn) ∧ w.cell? ⟨p, 2, none⟩ = some (.int .i64 u.sw) ∧ w.cell? ⟨p, 3, none⟩ = some (.int .i64 u.sc) ∧ w.cell? ⟨p, 4, none⟩ = some (.int .i64 u.sr) ∧ w.cell? ⟨p, 5, none⟩ = some (.int .i64 u.k) ∧ w.cell? ⟨p, 6, none⟩ = some (.int .i64 u.tr) ∧ w.cell? ⟨p, 7, none⟩ = some (.int .i64 u.id) ∧ w.cell? ⟨p, 8, none⟩ = some (.int .i64 u.pa) ∧ w.cell? ⟨p, 9, none⟩ = some (.string u.s) ∧ w.cell? ⟨p, 10, none⟩ = some (.int .i64 u.st) ∧ w.cell? ⟨p, 11, none⟩ = some (.int .i64 u.en) ∧ w.cell? ⟨p, 12, none⟩ = some (.int .i64 u.lv) :=
  ⟨h.cell (o := 0) (by omega), h.cell (o := 1) (by omega), h.cell (o := 2) (by omega), h.cell (o := 3) (by omega), h.cell (o := 4) (by omega), h.cell (o := 5) (by omega), h.cell (o := 6) (by omega), h.cell (o := 7) (by omega), h.cell (o := 8) (by omega), h.cell (o := 9) (by omega), h.cell (o := 10) (by omega), h.cell (o := 11) (by omega), h.cell (o := 12) (by omega)⟩
theorem uq_free {w : World} {p : Nat} {u : M1.Upd} (h : RowAt w p 13 (uq u)) : w.frozen? ⟨p, 0, none⟩ = false ∧ w.frozen? ⟨p, 1, none⟩ = false ∧ w.frozen? ⟨p, 2, none⟩ = false ∧ w.frozen? ⟨p, 3, none⟩ = false ∧ w.frozen? ⟨p, 4, none⟩ = false ∧ w.frozen? ⟨p, 5, none⟩ = false ∧ w.frozen? ⟨p, 6, none⟩ = false ∧ w.frozen? ⟨p, 7, none⟩ = false ∧ w.frozen? ⟨p, 8, none⟩ = false ∧ w.frozen? ⟨p, 9, none⟩ = false ∧ w.frozen? ⟨p, 10, none⟩ = false ∧ w.frozen? ⟨p, 11, none⟩ = false ∧ w.frozen? ⟨p, 12, none⟩ = false :=
  ⟨h.free (o := 0) (by omega), h.free (o := 1) (by omega), h.free (o := 2) (by omega), h.free (o := 3) (by omega), h.free (o := 4) (by omega), h.free (o := 5) (by omega), h.free (o := 6) (by omega), h.free (o := 7) (by omega), h.free (o := 8) (by omega), h.free (o := 9) (by omega), h.free (o := 10) (by omega), h.free (o := 11) (by omega), h.free (o := 12) (by omega)⟩
theorem uq_put {w : World} {r : Nat} {u0 : M1.Upd} (h : RowAt w r 13 (uq u0)) (u : M1.Upd) : RowAt (((((((((((((w.setCell ⟨r, 0, none⟩ (.int .i64 u.dr)).setCell ⟨r, 1, none⟩ (.int .i64 u.dn)).setCell ⟨r, 2, none⟩ (.int .i64 u.sw)).setCell ⟨r, 3, none⟩ (.int .i64 u.sc)).setCell ⟨r, 4, none⟩ (.int .i64 u.sr)).setCell ⟨r, 5, none⟩ (.int .i64 u.k)).setCell ⟨r, 6, none⟩ (.int .i64 u.tr)).setCell ⟨r, 7, none⟩ (.int .i64 u.id)).setCell ⟨r, 8, none⟩ (.int .i64 u.pa)).setCell ⟨r, 9, none⟩ (.string u.s)).setCell ⟨r, 10, none⟩ (.int .i64 u.st)).setCell ⟨r, 11, none⟩ (.int .i64 u.en)).setCell ⟨r, 12, none⟩ (.int .i64 u.lv)) r 13 (uq u) :=
  RowAt.same (((((((((((((h.set (o := 0) (by omega) (.int .i64 u.dr)).set (o := 1) (by omega) (.int .i64 u.dn)).set (o := 2) (by omega) (.int .i64 u.sw)).set (o := 3) (by omega) (.int .i64 u.sc)).set (o := 4) (by omega) (.int .i64 u.sr)).set (o := 5) (by omega) (.int .i64 u.k)).set (o := 6) (by omega) (.int .i64 u.tr)).set (o := 7) (by omega) (.int .i64 u.id)).set (o := 8) (by omega) (.int .i64 u.pa)).set (o := 9) (by omega) (.string u.s)).set (o := 10) (by omega) (.int .i64 u.st)).set (o := 11) (by omega) (.int .i64 u.en)).set (o := 12) (by omega) (.int .i64 u.lv)) (uq_same rfl rfl rfl rfl rfl rfl rfl rfl rfl rfl rfl rfl rfl)
theorem bel_put {a w : World} {B r : Nat} (h : Below B a w) (hr : B ≤ r) (u : M1.Upd) : Below B a (((((((((((((w.setCell ⟨r, 0, none⟩ (.int .i64 u.dr)).setCell ⟨r, 1, none⟩ (.int .i64 u.dn)).setCell ⟨r, 2, none⟩ (.int .i64 u.sw)).setCell ⟨r, 3, none⟩ (.int .i64 u.sc)).setCell ⟨r, 4, none⟩ (.int .i64 u.sr)).setCell ⟨r, 5, none⟩ (.int .i64 u.k)).setCell ⟨r, 6, none⟩ (.int .i64 u.tr)).setCell ⟨r, 7, none⟩ (.int .i64 u.id)).setCell ⟨r, 8, none⟩ (.int .i64 u.pa)).setCell ⟨r, 9, none⟩ (.string u.s)).setCell ⟨r, 10, none⟩ (.int .i64 u.st)).setCell ⟨r, 11, none⟩ (.int .i64 u.en)).setCell ⟨r, 12, none⟩ (.int .i64 u.lv)) := (((((((((((((h.setCell (p := ⟨r, 0, none⟩) hr (.int .i64 u.dr)).setCell (p := ⟨r, 1, none⟩) hr (.int .i64 u.dn)).setCell (p := ⟨r, 2, none⟩) hr (.int .i64 u.sw)).setCell (p := ⟨r, 3, none⟩) hr (.int .i64 u.sc)).setCell (p := ⟨r, 4, none⟩) hr (.int .i64 u.sr)).setCell (p := ⟨r, 5, none⟩) hr (.int .i64 u.k)).setCell (p := ⟨r, 6, none⟩) hr (.int .i64 u.tr)).setCell (p := ⟨r, 7, none⟩) hr (.int .i64 u.id)).setCell (p := ⟨r, 8, none⟩) hr (.int .i64 u.pa)).setCell (p := ⟨r, 9, none⟩) hr (.string u.s)).setCell (p := ⟨r, 10, none⟩) hr (.int .i64 u.st)).setCell (p := ⟨r, 11, none⟩) hr (.int .i64 u.en)).setCell (p := ⟨r, 12, none⟩) hr (.int .i64 u.lv))
theorem WdsIn.setO {w : World} {g n c p o : Nat} {v : Value} {xs : List ByteArray} (h : WdsIn w g n c xs) (hn : ¬ p = g) : WdsIn (w.setCell ⟨p, o, none⟩ v) g n c xs :=
  ⟨h.len, h.cap, h.most, by simpa [World.setCell] using h.lt, fun i hi => (World.cell?_setCell_other _ _ _ _ (by simp <;> omega)).trans (h.cell i hi)⟩

set_option maxHeartbeats 8000000 in
set_option maxRecDepth 100000 in
theorem ru_span1 (s : ByteArray) (w : World) (hs : s.size ≤ maxLen) (hs3 : s.size ≤ 200) (e1 : (((wB s.data.toList).getD 0 ByteArray.empty).toList == [115, 112, 97, 110]) = true) (H10w : 10 < (wB s.data.toList).length) :
    Calls Tryz.prog 35 #[.string s] w fun e w' => e = .returned (RdW s.data.toList) ∧ Below w.heap.size w w' := by
  have hs2 := hs
  unfold maxLen at hs2
  have hA : Below w.heap.size w (w.alloc (.cells #[.int .i64 0, .int .i64 0, .int .i64 0, .int .i64 0, .int .i64 0, .int .i64 0, .int .i64 0, .int .i64 0, .int .i64 0, .string ⟨#[]⟩, .int .i64 0, .int .i64 0, .int .i64 0] 47)) := (Below.refl _ _).alloc (Nat.le_refl _) _
  replace e1 := (⟨e1⟩ : PLift _)
  replace H10w := (⟨H10w⟩ : PLift _)
  go_enter Tryz.func35, Tryz.ntmps35
  go_upto_region 3 with fail
  obtain ⟨W0, hW0⟩ : ∃ W, w.alloc (.cells #[.int .i64 0, .int .i64 0, .int .i64 0, .int .i64 0, .int .i64 0, .int .i64 0, .int .i64 0, .int .i64 0, .int .i64 0, .string ⟨#[]⟩, .int .i64 0, .int .i64 0, .int .i64 0] 47) = W := ⟨_, rfl⟩
  have rr0 := uq_new w M1.zeroU 47
  unfold M1.zeroU at rr0
  rw [show (ByteArray.empty) = (⟨#[]⟩ : ByteArray) from rfl] at rr0
  rw [hW0] at hA rr0 ⊢
  clear hW0
  have hr0 := rr0.lt
  go_wp2_with fail
  refine (l2Words_any s _ hs3).mono ?_
  rintro e w1 ⟨⟨g, c, n, rfl, hn, own⟩, hb1⟩
  have hB1 := hA.trans (hb1.mono hA.size)
  have wd := wds_of_owns hn.out own
  have hl : Hid (∀ x ∈ wB s.data.toList, x.size ≤ maxLen) := fun x hx => by have := wB_size hs3 x hx; unfold maxLen; omega
  have hn0 : 1 ≤ n := by rw [← hn.out]; unfold wB; rw [List.length_map]; exact List.length_pos_iff.2 (M1.spl_ne _)
  have hnM : n ≤ 201 := by rw [← hn.out]; have := wB_len s.data.toList; rw [M1.len_list] at this; omega
  obtain ⟨xs, hxs⟩ : ∃ xs, Hid (wB s.data.toList = xs) := ⟨_, rfl⟩
  rw [hxs.out] at wd hl
  clear own
  have c1 := wd.cap
  have c2 := wd.most
  unfold maxLen at c2
  obtain ⟨n1, hn1⟩ : ∃ z, Hid (numW xs 1 = z) := ⟨_, rfl⟩
  obtain ⟨n2, hn2⟩ : ∃ z, Hid (numW xs 2 = z) := ⟨_, rfl⟩
  obtain ⟨n3, hn3⟩ : ∃ z, Hid (numW xs 3 = z) := ⟨_, rfl⟩
  obtain ⟨n4, hn4⟩ : ∃ z, Hid (numW xs 4 = z) := ⟨_, rfl⟩
  obtain ⟨n5, hn5⟩ : ∃ z, Hid (numW xs 5 = z) := ⟨_, rfl⟩
  go_wp2_with fail
  refine (l2Num_any g n c 1 xs _ wd (by omega) hl).mono ?_
  rw [hn1.out]
  rintro e w2 ⟨rfl, rfl⟩
  go_wp2_with fail
  refine (l2Num_any g n c 2 xs _ wd (by omega) hl).mono ?_
  rw [hn2.out]
  rintro e w2 ⟨rfl, rfl⟩
  go_wp2_with fail
  refine (l2Num_any g n c 5 xs _ wd (by omega) hl).mono ?_
  rw [hn5.out]
  rintro e w2 ⟨rfl, rfl⟩
  have hA3 : Below w2.heap.size w2 (w2.alloc (.cells #[.int .i64 n1, .int .i64 n2, .int .i64 0, .int .i64 0, .int .i64 0, .int .i64 0, .int .i64 n5, .int .i64 0, .int .i64 0, .string ⟨#[]⟩, .int .i64 0, .int .i64 0, .int .i64 0] 47)) := (Below.refl _ _).alloc (Nat.le_refl _) _
  have rp := uq_new w2 ⟨n1, n2, 0, 0, 0, 0, n5, 0, 0, ⟨#[]⟩, 0, 0, 0⟩ 47
  go_upto_region 5 with fail
  obtain ⟨W3, hW3⟩ : ∃ W, w2.alloc (.cells #[.int .i64 n1, .int .i64 n2, .int .i64 0, .int .i64 0, .int .i64 0, .int .i64 0, .int .i64 n5, .int .i64 0, .int .i64 0, .string ⟨#[]⟩, .int .i64 0, .int .i64 0, .int .i64 0] 47) = W := ⟨_, rfl⟩
  rw [hW3] at hA3 rp ⊢
  clear hW3
  have wd3 := wd.below hA3
  have rr3 := (rr0.below hb1).below hA3
  have hr1 : w.heap.size < w2.heap.size := by have := hb1.size; omega
  have hgp : ¬ w2.heap.size = g := by have := wd.lt; omega
  have hB3 := hB1.trans (hA3.mono hB1.size)
  obtain ⟨p, hp⟩ : ∃ p, Hid (w2.heap.size = p) := ⟨_, rfl⟩
  have hpr : ¬ p = w.heap.size := by have := hp.out; omega
  have hpB : w.heap.size ≤ p := by rw [← hp.out]; exact hB1.size
  rw [hp.out] at rp hgp ⊢
  have q0 : W3.cell? ⟨p, 0, none⟩ = some (.int .i64 n1) := rp.cell (o := 0) (by omega)
  have f2 := rp.free (o := 2) (by omega)
  have f3 := rp.free (o := 3) (by omega)
  have f4 := rp.free (o := 4) (by omega)
  have k2 := rp.cell (o := 2) (by omega)
  have k3 := rp.cell (o := 3) (by omega)
  have k4 := rp.cell (o := 4) (by omega)
  have hpl := rp.lt
  clear hA3 wd
  refine wp_region_held_drew (S := fun w' => w'.cell? ⟨p, 0, none⟩ = some (.int .i64 n1) ∧ WdsIn w' g n c xs) (by kernel_rfl) ?_ (fun hHeld => ?_)
  · exact ⟨q0, wd3.below (Below.refl _ _).drew⟩
  refine wpAnyH_take (i := 0) (v := ?_) rfl (by kernel_rfl) (by kernel_rfl) (by kernel_rfl) (fun _ _ _ h => h) (Or.inl ⟨by rfl, ?_⟩) hHeld ?_
  rotate_left
  · (intro w hSw; (try dsimp only at hSw); go_simp; try (with_reducible rfl))
  (try simp only [Act.put, aZ, bZ, cZ, dZ, eZ, fZ])
  refine wpAnyH_take (i := 2) (v := ?_) rfl (by kernel_rfl) (by kernel_rfl) (by kernel_rfl) (fun _ _ _ h => h) (Or.inl ⟨by rfl, ?_⟩) hHeld ?_
  rotate_left
  · (intro w hSw; (try dsimp only at hSw); go_simp; try (with_reducible rfl))
  (try simp only [Act.put, aZ, bZ, cZ, dZ, eZ, fZ])
  refine wpAnyH_take (i := 4) (v := ?_) rfl (by kernel_rfl) (by kernel_rfl) (by kernel_rfl) (fun _ _ _ h => h) (Or.inl ⟨by rfl, ?_⟩) hHeld ?_
  rotate_left
  · (intro w hSw; (try dsimp only at hSw); go_simp; try (with_reducible rfl))
  (try simp only [Act.put, aZ, bZ, cZ, dZ, eZ, fZ])
  refine wpAnyH_take (i := 5) (v := ?_) rfl (by kernel_rfl) (by kernel_rfl) (by kernel_rfl) (fun _ _ _ h => h) (Or.inl ⟨by rfl, ?_⟩) hHeld ?_
  rotate_left
  · (intro w hSw; (try dsimp only at hSw); go_simp; try (with_reducible rfl))
  (try simp only [Act.put, aZ, bZ, cZ, dZ, eZ, fZ])
  refine wpAnyH_take (i := 6) (v := .int .i64 n1) rfl (by kernel_rfl) (by kernel_rfl) (by kernel_rfl) (fun _ _ _ h => h) (Or.inl ⟨by rfl, ?_⟩) hHeld ?_
  · (intro w hSw; (try dsimp only at hSw); go_simp; (try rw [hSw.1]))
  (try simp only [Act.put, aZ, bZ, cZ, dZ, eZ, fZ])
  refine wpAnyH_ready (rs := [1]) (by kernel_rfl) (by simp) ?_
  refine AllReadyH.cons (o := _) rfl (fun K hK => ?_) AllReadyH.nil
  go_simp
  (refine (l2Num_any g n c 3 xs _ hHeld.2 (by omega) hl).mono ?_; rw [hn3.out]; rintro e w8 ⟨rfl, rfl⟩; go_wp2_with fail)
  refine hK.out _ _ ?_ (fun hHeld2 => ?_)
  · exact hHeld
  clear hK K hHeld
  have hHeld := hHeld2
  clear hHeld2
  (try simp only [Act.put, aZ, bZ, cZ, dZ, eZ, fZ])
  refine wpAnyH_ready (rs := [3]) (by kernel_rfl) (by simp) ?_
  refine AllReadyH.cons (o := _) rfl (fun K hK => ?_) AllReadyH.nil
  go_simp
  (refine (l2Num_any g n c 4 xs _ hHeld.2 (by omega) hl).mono ?_; rw [hn4.out]; rintro e w8 ⟨rfl, rfl⟩; go_wp2_with fail)
  refine hK.out _ _ ?_ (fun hHeld2 => ?_)
  · exact hHeld
  clear hK K hHeld
  have hHeld := hHeld2
  clear hHeld2
  (try simp only [Act.put, aZ, bZ, cZ, dZ, eZ, fZ])
  refine wpAnyH_take (i := 7) (v := ?_) rfl (by kernel_rfl) (by kernel_rfl) (by kernel_rfl) (fun _ _ _ h => h) (Or.inl ⟨by rfl, ?_⟩) hHeld ?_
  rotate_left
  · (intro w hSw; (try dsimp only at hSw); go_simp; try (with_reducible rfl))
  (try simp only [Act.put, aZ, bZ, cZ, dZ, eZ, fZ])
  refine wpAnyH_take (i := 8) (v := ?_) rfl (by kernel_rfl) (by kernel_rfl) (by kernel_rfl) (fun _ _ _ h => h) (Or.inl ⟨by rfl, ?_⟩) hHeld ?_
  rotate_left
  · (intro w hSw; (try dsimp only at hSw); go_simp; try (with_reducible rfl))
  (try simp only [Act.put, aZ, bZ, cZ, dZ, eZ, fZ])
  refine wpAnyH_ready (rs := [9]) (by kernel_rfl) (by simp) ?_
  refine AllReadyH.cons (o := _) rfl (fun K hK => ?_) AllReadyH.nil
  go_simp
  skip
  refine hK.out _ _ ?_ (fun hHeld2 => ?_)
  · exact ⟨(World.cell?_setCell_other _ _ _ _ (by simp)).trans ((World.cell?_setCell_other _ _ _ _ (by simp)).trans ((World.cell?_setCell_other _ _ _ _ (by simp)).trans hHeld.1)), ((hHeld.2.setO hgp).setO hgp).setO hgp⟩
  clear hK K hHeld
  have hHeld := hHeld2
  clear hHeld2
  (try simp only [Act.put, aZ, bZ, cZ, dZ, eZ, fZ])
  refine wpAnyH_done (by kernel_rfl) ?_ _
  have rp5 : RowAt (((W3.setCell ⟨p, 2, none⟩ (.int .i64 n3)).setCell ⟨p, 3, none⟩ (.int .i64 n4)).setCell ⟨p, 4, none⟩ (.int .i64 n1)).drew p 13 (uq ⟨n1, n2, n3, n4, n1, 0, n5, 0, 0, ⟨#[]⟩, 0, 0, 0⟩) := ((((rp.set (o := 2) (by omega) (.int .i64 n3)).set (o := 3) (by omega) (.int .i64 n4)).set (o := 4) (by omega) (.int .i64 n1)).drew).same (uq_same rfl rfl rfl rfl rfl rfl rfl rfl rfl rfl rfl rfl rfl)
  have wd5 : WdsIn (((W3.setCell ⟨p, 2, none⟩ (.int .i64 n3)).setCell ⟨p, 3, none⟩ (.int .i64 n4)).setCell ⟨p, 4, none⟩ (.int .i64 n1)).drew g n c xs := (((wd3.setO hgp).setO hgp).setO hgp).below (Below.refl _ _).drew
  have hB5 : Below w.heap.size w (((W3.setCell ⟨p, 2, none⟩ (.int .i64 n3)).setCell ⟨p, 3, none⟩ (.int .i64 n4)).setCell ⟨p, 4, none⟩ (.int .i64 n1)).drew := (((hB3.setCell (p := ⟨p, 2, none⟩) hpB _).setCell (p := ⟨p, 3, none⟩) hpB _).setCell (p := ⟨p, 4, none⟩) hpB _).drew
  have rr5 := (((rr3.far (p := ⟨p, 2, none⟩) hpr (.int .i64 n3)).far (p := ⟨p, 3, none⟩) hpr (.int .i64 n4)).far (p := ⟨p, 4, none⟩) hpr (.int .i64 n1)).drew
  generalize (((W3.setCell ⟨p, 2, none⟩ (.int .i64 n3)).setCell ⟨p, 3, none⟩ (.int .i64 n4)).setCell ⟨p, 4, none⟩ (.int .i64 n1)).drew = W5 at rp5 wd5 hB5 hHeld rr5 ⊢
  clear rp wd3 hB3 q0 f2 f3 f4 k2 k3 k4 hpl hHeld
  obtain ⟨x0, hx0⟩ : ∃ x, Hid (xs.getD 0 ByteArray.empty = x) := ⟨_, rfl⟩
  have d0 := wd5.cell 0 (by omega)
  rw [hx0.out] at d0
  have hgl := wd5.lt
  have hpl := rp5.lt
  have z0 : (0 : Int) < (n : Int) := by omega
  obtain ⟨n6, hn6⟩ : ∃ z, Hid (numW xs 6 = z) := ⟨_, rfl⟩
  have f5 := rp5.free (o := 5) (by omega)
  have q5 := rp5.cell (o := 5) (by omega)
  replace e1 := e1.down
  rw [hxs.out, hx0.out] at e1
  replace H10w := H10w.down
  rw [hxs.out] at H10w
  obtain ⟨n7, hn7⟩ : ∃ z, Hid (numW xs 7 = z) := ⟨_, rfl⟩
  obtain ⟨n8, hn8⟩ : ∃ z, Hid (numW xs 8 = z) := ⟨_, rfl⟩
  obtain ⟨n9, hn9⟩ : ∃ z, Hid (numW xs 9 = z) := ⟨_, rfl⟩
  have rp6 : RowAt (W5.setCell ⟨p, 5, none⟩ (.int .i64 1)) p 13 (uq ⟨n1, n2, n3, n4, n1, 1, n5, 0, 0, ⟨#[]⟩, 0, 0, 0⟩) := (rp5.set (o := 5) (by omega) (.int .i64 1)).same (uq_same rfl rfl rfl rfl rfl rfl rfl rfl rfl rfl rfl rfl rfl)
  have rr6 := rr5.far (p := ⟨p, 5, none⟩) hpr (.int .i64 1)
  have hB6 := hB5.setCell (p := ⟨p, 5, none⟩) hpB (.int .i64 1)
  have wd6 := wd5.setO hgp (o := 5) (v := .int .i64 1)
  go_upto_region 9 with fail
  generalize W5.setCell ⟨p, 5, none⟩ (.int .i64 1) = W6 at rp6 rr6 hB6 wd6 ⊢
  clear q5 f5 d0 rp5 wd5 hB5 rr5
  go_wp2_with fail
  refine (l2Num_any g n c 6 xs _ wd6 (by omega) hl).mono ?_
  rw [hn6.out]
  rintro e wx ⟨rfl, rfl⟩
  go_wp2_with fail
  refine (l2Num_any g n c 7 xs _ wd6 (by omega) hl).mono ?_
  rw [hn7.out]
  rintro e wx ⟨rfl, rfl⟩
  go_wp2_with fail
  refine (l2Num_any g n c 8 xs _ wd6 (by omega) hl).mono ?_
  rw [hn8.out]
  rintro e wx ⟨rfl, rfl⟩
  go_wp2_with fail
  refine (l2Num_any g n c 9 xs _ wd6 (by omega) hl).mono ?_
  rw [hn9.out]
  rintro e wx ⟨rfl, rfl⟩
  have rp7 : RowAt (((((wx.setCell ⟨p, 7, none⟩ (.int .i64 n6)).setCell ⟨p, 8, none⟩ (.int .i64 n7)).setCell ⟨p, 9, none⟩ (.string ⟨#[]⟩)).setCell ⟨p, 10, none⟩ (.int .i64 n8)).setCell ⟨p, 11, none⟩ (.int .i64 n9)) p 13 (uq ⟨n1, n2, n3, n4, n1, 1, n5, n6, n7, ⟨#[]⟩, n8, n9, 0⟩) := (((((rp6.set (o := 7) (by omega) (.int .i64 n6)).set (o := 8) (by omega) (.int .i64 n7)).set (o := 9) (by omega) (.string ⟨#[]⟩)).set (o := 10) (by omega) (.int .i64 n8)).set (o := 11) (by omega) (.int .i64 n9)).same (uq_same rfl rfl rfl rfl rfl rfl rfl rfl rfl rfl rfl rfl rfl)
  have rr7 := ((((rr6.far (p := ⟨p, 7, none⟩) hpr (.int .i64 n6)).far (p := ⟨p, 8, none⟩) hpr (.int .i64 n7)).far (p := ⟨p, 9, none⟩) hpr (.string ⟨#[]⟩)).far (p := ⟨p, 10, none⟩) hpr (.int .i64 n8)).far (p := ⟨p, 11, none⟩) hpr (.int .i64 n9)
  have hB7 := ((((hB6.setCell (p := ⟨p, 7, none⟩) hpB (.int .i64 n6)).setCell (p := ⟨p, 8, none⟩) hpB (.int .i64 n7)).setCell (p := ⟨p, 9, none⟩) hpB (.string ⟨#[]⟩)).setCell (p := ⟨p, 10, none⟩) hpB (.int .i64 n8)).setCell (p := ⟨p, 11, none⟩) hpB (.int .i64 n9)
  have wd7 := ((((wd6.setO hgp (o := 7) (v := .int .i64 n6)).setO hgp (o := 8) (v := .int .i64 n7)).setO hgp (o := 9) (v := .string ⟨#[]⟩)).setO hgp (o := 10) (v := .int .i64 n8)).setO hgp (o := 11) (v := .int .i64 n9)
  obtain ⟨c0, c1, c2, c3, c4, c5, c6, c7, c8, c9, c10, c11, c12⟩ := uq_cells rp6
  obtain ⟨y0, y1, y2, y3, y4, y5, y6, y7, y8, y9, y10, y11, y12⟩ := uq_free rp6
  have cl := rp6.lt
  go_upto_region 10 with fail
  clear c0 c1 c2 c3 c4 c5 c6 c7 c8 c9 c10 c11 c12 y0 y1 y2 y3 y4 y5 y6 y7 y8 y9 y10 y11 y12 cl
  generalize ((((wx.setCell ⟨p, 7, none⟩ (.int .i64 n6)).setCell ⟨p, 8, none⟩ (.int .i64 n7)).setCell ⟨p, 9, none⟩ (.string ⟨#[]⟩)).setCell ⟨p, 10, none⟩ (.int .i64 n8)).setCell ⟨p, 11, none⟩ (.int .i64 n9) = W7 at rp7 rr7 hB7 wd7 ⊢
  clear rp6 rr6 hB6 wd6
  have hlx : Hid (xs.length = n) := wd7.len
  have h10 : 10 < n := by rw [← hlx.out]; exact H10w
  have d10 := wd7.cell 10 h10
  have hg7 := wd7.lt
  have i10 : (10 : Int) < (n : Int) := by omega
  have hx10 : Hid ((xs.getD 10 ByteArray.empty).size ≤ maxLen) := hl.out _ (by rw [show xs.getD 10 ByteArray.empty = xs[10]'(by rw [hlx.out]; exact h10) by simp [List.getD, show 10 < xs.length by rw [hlx.out]; exact h10]]; exact List.getElem_mem _)
  have H10 : Hid (10 < xs.length) := (by rw [hlx.out]; exact h10 : 10 < xs.length)
  obtain ⟨t, ht⟩ : ∃ t, Hid (xs.getD 10 ByteArray.empty = t) := ⟨_, rfl⟩
  rw [ht.out] at d10 hx10
  have q9 := rp7.cell (o := 9) (by omega)
  have f9 := rp7.free (o := 9) (by omega)
  have hp7 := rp7.lt
  have rp8 : RowAt (W7.setCell ⟨p, 9, none⟩ (.string t)) p 13 (uq ⟨n1, n2, n3, n4, n1, 1, n5, n6, n7, t, n8, n9, 0⟩) := (rp7.set (o := 9) (by omega) (.string t)).same (uq_same rfl rfl rfl rfl rfl rfl rfl rfl rfl rfl rfl rfl rfl)
  have rrW := rr7.far (p := ⟨p, 9, none⟩) hpr (.string t)
  have hBW := hB7.setCell (p := ⟨p, 9, none⟩) hpB (.string t)
  go_upto_region 17 with fail
  generalize W7.setCell ⟨p, 9, none⟩ (.string t) = W8 at rp8 rrW hBW ⊢
  clear q9 f9 d10 rp7 wd7 hB7 rr7
  have HG : Hid (guU xs = ⟨n1, n2, n3, n4, n1, 1, n5, n6, n7, t, n8, n9, 0⟩) := (by unfold guU; rw [hx0.out, if_pos (show x0.data.toList = M1.wSpan from tl_iff.1 e1), if_pos H10.out, ht.out, hn1.out, hn2.out, hn3.out, hn4.out, hn5.out, hn6.out, hn7.out, hn8.out, hn9.out]; try rfl : _ = _)
  have HGS : Hid (guU (wB s.data.toList) = ⟨n1, n2, n3, n4, n1, 1, n5, n6, n7, t, n8, n9, 0⟩) := (by rw [hxs.out]; exact HG.out : _ = _)
  obtain ⟨x, hx⟩ : ∃ x, Hid (M1.utx ⟨n1, n2, n3, n4, n1, 1, n5, n6, n7, t, n8, n9, 0⟩ = x) := ⟨_, rfl⟩
  obtain ⟨c0, c1, c2, c3, c4, c5, c6, c7, c8, c9, c10, c11, c12⟩ := uq_cells rp8
  have cl := (rp8).lt
  go_wp2_with fail
  refine (updateText_spec ⟨n1, n2, n3, n4, n1, 1, n5, n6, n7, t, n8, n9, 0⟩ _ hx10.out).mono ?_
  rw [hx.out]
  rintro e w9 ⟨rfl, hb9⟩
  have rp9 := (rp8).below hb9
  have rr9 := rrW.below hb9
  have hB9 := hBW.trans (hb9.mono hBW.size)
  clear c0 c1 c2 c3 c4 c5 c6 c7 c8 c9 c10 c11 c12 cl
  obtain ⟨c0, c1, c2, c3, c4, c5, c6, c7, c8, c9, c10, c11, c12⟩ := uq_cells rp9
  obtain ⟨r0, r1, r2, r3, r4, r5, r6, r7, r8, r9, r10, r11, r12⟩ := uq_cells rr9
  obtain ⟨y0, y1, y2, y3, y4, y5, y6, y7, y8, y9, y10, y11, y12⟩ := uq_free rr9
  have cl := rp9.lt
  have rl := rr9.lt
  go_wp2_with fail
  · rename_i h1 h2
    have HR : Hid (RdW s.data.toList = .tuple #[.agg #[.int .i64 0, .int .i64 0, .int .i64 0, .int .i64 0, .int .i64 0, .int .i64 0, .int .i64 0, .int .i64 0, .int .i64 0, .string ByteArray.empty, .int .i64 0, .int .i64 0, .int .i64 0], .bool false]) := rd_no2 h2
    have rr10 : RowAt (((((((((((((w9.setCell ⟨w.heap.size, 0, none⟩ (.int .i64 0)).setCell ⟨w.heap.size, 1, none⟩ (.int .i64 0)).setCell ⟨w.heap.size, 2, none⟩ (.int .i64 0)).setCell ⟨w.heap.size, 3, none⟩ (.int .i64 0)).setCell ⟨w.heap.size, 4, none⟩ (.int .i64 0)).setCell ⟨w.heap.size, 5, none⟩ (.int .i64 0)).setCell ⟨w.heap.size, 6, none⟩ (.int .i64 0)).setCell ⟨w.heap.size, 7, none⟩ (.int .i64 0)).setCell ⟨w.heap.size, 8, none⟩ (.int .i64 0)).setCell ⟨w.heap.size, 9, none⟩ (.string ⟨#[]⟩)).setCell ⟨w.heap.size, 10, none⟩ (.int .i64 0)).setCell ⟨w.heap.size, 11, none⟩ (.int .i64 0)).setCell ⟨w.heap.size, 12, none⟩ (.int .i64 0)) w.heap.size 13 (uq M1.zeroU) := uq_put rr9 M1.zeroU
    have hB10 : Below w.heap.size w (((((((((((((w9.setCell ⟨w.heap.size, 0, none⟩ (.int .i64 0)).setCell ⟨w.heap.size, 1, none⟩ (.int .i64 0)).setCell ⟨w.heap.size, 2, none⟩ (.int .i64 0)).setCell ⟨w.heap.size, 3, none⟩ (.int .i64 0)).setCell ⟨w.heap.size, 4, none⟩ (.int .i64 0)).setCell ⟨w.heap.size, 5, none⟩ (.int .i64 0)).setCell ⟨w.heap.size, 6, none⟩ (.int .i64 0)).setCell ⟨w.heap.size, 7, none⟩ (.int .i64 0)).setCell ⟨w.heap.size, 8, none⟩ (.int .i64 0)).setCell ⟨w.heap.size, 9, none⟩ (.string ⟨#[]⟩)).setCell ⟨w.heap.size, 10, none⟩ (.int .i64 0)).setCell ⟨w.heap.size, 11, none⟩ (.int .i64 0)).setCell ⟨w.heap.size, 12, none⟩ (.int .i64 0)) := bel_put hB9 (Nat.le_refl _) M1.zeroU
    clear c0 c1 c2 c3 c4 c5 c6 c7 c8 c9 c10 c11 c12 r0 r1 r2 r3 r4 r5 r6 r7 r8 r9 r10 r11 r12 y0 y1 y2 y3 y4 y5 y6 y7 y8 y9 y10 y11 y12 rp9 rr9
    obtain ⟨W10, hW10⟩ : ∃ W, (((((((((((((w9.setCell ⟨w.heap.size, 0, none⟩ (.int .i64 0)).setCell ⟨w.heap.size, 1, none⟩ (.int .i64 0)).setCell ⟨w.heap.size, 2, none⟩ (.int .i64 0)).setCell ⟨w.heap.size, 3, none⟩ (.int .i64 0)).setCell ⟨w.heap.size, 4, none⟩ (.int .i64 0)).setCell ⟨w.heap.size, 5, none⟩ (.int .i64 0)).setCell ⟨w.heap.size, 6, none⟩ (.int .i64 0)).setCell ⟨w.heap.size, 7, none⟩ (.int .i64 0)).setCell ⟨w.heap.size, 8, none⟩ (.int .i64 0)).setCell ⟨w.heap.size, 9, none⟩ (.string ⟨#[]⟩)).setCell ⟨w.heap.size, 10, none⟩ (.int .i64 0)).setCell ⟨w.heap.size, 11, none⟩ (.int .i64 0)).setCell ⟨w.heap.size, 12, none⟩ (.int .i64 0)) = W := ⟨_, rfl⟩
    rw [hW10] at rr10 hB10 ⊢
    clear hW10
    obtain ⟨v0, v1, v2, v3, v4, v5, v6, v7, v8, v9, v10, v11, v12⟩ := uq_cells rr10
    unfold M1.zeroU at v0 v1 v2 v3 v4 v5 v6 v7 v8 v9 v10 v11 v12
    refine bodyPost_ret (v := .tuple #[.agg #[.int .i64 0, .int .i64 0, .int .i64 0, .int .i64 0, .int .i64 0, .int .i64 0, .int .i64 0, .int .i64 0, .int .i64 0, .string ByteArray.empty, .int .i64 0, .int .i64 0, .int .i64 0], .bool false]) (by simp [results, Tryz.results35, go_sem, v0, v1, v2, v3, v4, v5, v6, v7, v8, v9, v10, v11, v12]) rfl ?_
    exact ⟨by rw [HR.out], hB10⟩
  · rename_i h1 h2
    have HR : Hid (RdW s.data.toList = .tuple #[.agg #[.int .i64 n1, .int .i64 n2, .int .i64 n3, .int .i64 n4, .int .i64 n1, .int .i64 1, .int .i64 n5, .int .i64 n6, .int .i64 n7, .string t, .int .i64 n8, .int .i64 n9, .int .i64 0], .bool true]) := rd_yes HGS.out hx.out h1 h2
    have rr10 : RowAt (((((((((((((w9.setCell ⟨w.heap.size, 0, none⟩ (.int .i64 n1)).setCell ⟨w.heap.size, 1, none⟩ (.int .i64 n2)).setCell ⟨w.heap.size, 2, none⟩ (.int .i64 n3)).setCell ⟨w.heap.size, 3, none⟩ (.int .i64 n4)).setCell ⟨w.heap.size, 4, none⟩ (.int .i64 n1)).setCell ⟨w.heap.size, 5, none⟩ (.int .i64 1)).setCell ⟨w.heap.size, 6, none⟩ (.int .i64 n5)).setCell ⟨w.heap.size, 7, none⟩ (.int .i64 n6)).setCell ⟨w.heap.size, 8, none⟩ (.int .i64 n7)).setCell ⟨w.heap.size, 9, none⟩ (.string t)).setCell ⟨w.heap.size, 10, none⟩ (.int .i64 n8)).setCell ⟨w.heap.size, 11, none⟩ (.int .i64 n9)).setCell ⟨w.heap.size, 12, none⟩ (.int .i64 0)) w.heap.size 13 (uq ⟨n1, n2, n3, n4, n1, 1, n5, n6, n7, t, n8, n9, 0⟩) := uq_put rr9 ⟨n1, n2, n3, n4, n1, 1, n5, n6, n7, t, n8, n9, 0⟩
    have hB10 : Below w.heap.size w (((((((((((((w9.setCell ⟨w.heap.size, 0, none⟩ (.int .i64 n1)).setCell ⟨w.heap.size, 1, none⟩ (.int .i64 n2)).setCell ⟨w.heap.size, 2, none⟩ (.int .i64 n3)).setCell ⟨w.heap.size, 3, none⟩ (.int .i64 n4)).setCell ⟨w.heap.size, 4, none⟩ (.int .i64 n1)).setCell ⟨w.heap.size, 5, none⟩ (.int .i64 1)).setCell ⟨w.heap.size, 6, none⟩ (.int .i64 n5)).setCell ⟨w.heap.size, 7, none⟩ (.int .i64 n6)).setCell ⟨w.heap.size, 8, none⟩ (.int .i64 n7)).setCell ⟨w.heap.size, 9, none⟩ (.string t)).setCell ⟨w.heap.size, 10, none⟩ (.int .i64 n8)).setCell ⟨w.heap.size, 11, none⟩ (.int .i64 n9)).setCell ⟨w.heap.size, 12, none⟩ (.int .i64 0)) := bel_put hB9 (Nat.le_refl _) ⟨n1, n2, n3, n4, n1, 1, n5, n6, n7, t, n8, n9, 0⟩
    clear c0 c1 c2 c3 c4 c5 c6 c7 c8 c9 c10 c11 c12 r0 r1 r2 r3 r4 r5 r6 r7 r8 r9 r10 r11 r12 y0 y1 y2 y3 y4 y5 y6 y7 y8 y9 y10 y11 y12 rp9 rr9
    obtain ⟨W10, hW10⟩ : ∃ W, (((((((((((((w9.setCell ⟨w.heap.size, 0, none⟩ (.int .i64 n1)).setCell ⟨w.heap.size, 1, none⟩ (.int .i64 n2)).setCell ⟨w.heap.size, 2, none⟩ (.int .i64 n3)).setCell ⟨w.heap.size, 3, none⟩ (.int .i64 n4)).setCell ⟨w.heap.size, 4, none⟩ (.int .i64 n1)).setCell ⟨w.heap.size, 5, none⟩ (.int .i64 1)).setCell ⟨w.heap.size, 6, none⟩ (.int .i64 n5)).setCell ⟨w.heap.size, 7, none⟩ (.int .i64 n6)).setCell ⟨w.heap.size, 8, none⟩ (.int .i64 n7)).setCell ⟨w.heap.size, 9, none⟩ (.string t)).setCell ⟨w.heap.size, 10, none⟩ (.int .i64 n8)).setCell ⟨w.heap.size, 11, none⟩ (.int .i64 n9)).setCell ⟨w.heap.size, 12, none⟩ (.int .i64 0)) = W := ⟨_, rfl⟩
    rw [hW10] at rr10 hB10 ⊢
    clear hW10
    obtain ⟨v0, v1, v2, v3, v4, v5, v6, v7, v8, v9, v10, v11, v12⟩ := uq_cells rr10
    refine bodyPost_ret (v := .tuple #[.agg #[.int .i64 n1, .int .i64 n2, .int .i64 n3, .int .i64 n4, .int .i64 n1, .int .i64 1, .int .i64 n5, .int .i64 n6, .int .i64 n7, .string t, .int .i64 n8, .int .i64 n9, .int .i64 0], .bool true]) (by simp [results, Tryz.results35, go_sem, v0, v1, v2, v3, v4, v5, v6, v7, v8, v9, v10, v11, v12]) rfl ?_
    exact ⟨by rw [HR.out], hB10⟩
  · rename_i h1
    have HR : Hid (RdW s.data.toList = .tuple #[.agg #[.int .i64 0, .int .i64 0, .int .i64 0, .int .i64 0, .int .i64 0, .int .i64 0, .int .i64 0, .int .i64 0, .int .i64 0, .string ByteArray.empty, .int .i64 0, .int .i64 0, .int .i64 0], .bool false]) := rd_no1 HGS.out hx.out h1
    have rr10 : RowAt (((((((((((((w9.setCell ⟨w.heap.size, 0, none⟩ (.int .i64 0)).setCell ⟨w.heap.size, 1, none⟩ (.int .i64 0)).setCell ⟨w.heap.size, 2, none⟩ (.int .i64 0)).setCell ⟨w.heap.size, 3, none⟩ (.int .i64 0)).setCell ⟨w.heap.size, 4, none⟩ (.int .i64 0)).setCell ⟨w.heap.size, 5, none⟩ (.int .i64 0)).setCell ⟨w.heap.size, 6, none⟩ (.int .i64 0)).setCell ⟨w.heap.size, 7, none⟩ (.int .i64 0)).setCell ⟨w.heap.size, 8, none⟩ (.int .i64 0)).setCell ⟨w.heap.size, 9, none⟩ (.string ⟨#[]⟩)).setCell ⟨w.heap.size, 10, none⟩ (.int .i64 0)).setCell ⟨w.heap.size, 11, none⟩ (.int .i64 0)).setCell ⟨w.heap.size, 12, none⟩ (.int .i64 0)) w.heap.size 13 (uq M1.zeroU) := uq_put rr9 M1.zeroU
    have hB10 : Below w.heap.size w (((((((((((((w9.setCell ⟨w.heap.size, 0, none⟩ (.int .i64 0)).setCell ⟨w.heap.size, 1, none⟩ (.int .i64 0)).setCell ⟨w.heap.size, 2, none⟩ (.int .i64 0)).setCell ⟨w.heap.size, 3, none⟩ (.int .i64 0)).setCell ⟨w.heap.size, 4, none⟩ (.int .i64 0)).setCell ⟨w.heap.size, 5, none⟩ (.int .i64 0)).setCell ⟨w.heap.size, 6, none⟩ (.int .i64 0)).setCell ⟨w.heap.size, 7, none⟩ (.int .i64 0)).setCell ⟨w.heap.size, 8, none⟩ (.int .i64 0)).setCell ⟨w.heap.size, 9, none⟩ (.string ⟨#[]⟩)).setCell ⟨w.heap.size, 10, none⟩ (.int .i64 0)).setCell ⟨w.heap.size, 11, none⟩ (.int .i64 0)).setCell ⟨w.heap.size, 12, none⟩ (.int .i64 0)) := bel_put hB9 (Nat.le_refl _) M1.zeroU
    clear c0 c1 c2 c3 c4 c5 c6 c7 c8 c9 c10 c11 c12 r0 r1 r2 r3 r4 r5 r6 r7 r8 r9 r10 r11 r12 y0 y1 y2 y3 y4 y5 y6 y7 y8 y9 y10 y11 y12 rp9 rr9
    obtain ⟨W10, hW10⟩ : ∃ W, (((((((((((((w9.setCell ⟨w.heap.size, 0, none⟩ (.int .i64 0)).setCell ⟨w.heap.size, 1, none⟩ (.int .i64 0)).setCell ⟨w.heap.size, 2, none⟩ (.int .i64 0)).setCell ⟨w.heap.size, 3, none⟩ (.int .i64 0)).setCell ⟨w.heap.size, 4, none⟩ (.int .i64 0)).setCell ⟨w.heap.size, 5, none⟩ (.int .i64 0)).setCell ⟨w.heap.size, 6, none⟩ (.int .i64 0)).setCell ⟨w.heap.size, 7, none⟩ (.int .i64 0)).setCell ⟨w.heap.size, 8, none⟩ (.int .i64 0)).setCell ⟨w.heap.size, 9, none⟩ (.string ⟨#[]⟩)).setCell ⟨w.heap.size, 10, none⟩ (.int .i64 0)).setCell ⟨w.heap.size, 11, none⟩ (.int .i64 0)).setCell ⟨w.heap.size, 12, none⟩ (.int .i64 0)) = W := ⟨_, rfl⟩
    rw [hW10] at rr10 hB10 ⊢
    clear hW10
    obtain ⟨v0, v1, v2, v3, v4, v5, v6, v7, v8, v9, v10, v11, v12⟩ := uq_cells rr10
    unfold M1.zeroU at v0 v1 v2 v3 v4 v5 v6 v7 v8 v9 v10 v11 v12
    refine bodyPost_ret (v := .tuple #[.agg #[.int .i64 0, .int .i64 0, .int .i64 0, .int .i64 0, .int .i64 0, .int .i64 0, .int .i64 0, .int .i64 0, .int .i64 0, .string ByteArray.empty, .int .i64 0, .int .i64 0, .int .i64 0], .bool false]) (by simp [results, Tryz.results35, go_sem, v0, v1, v2, v3, v4, v5, v6, v7, v8, v9, v10, v11, v12]) rfl ?_
    exact ⟨by rw [HR.out], hB10⟩

set_option maxHeartbeats 8000000 in
set_option maxRecDepth 100000 in
theorem ru_span2 (s : ByteArray) (w : World) (hs : s.size ≤ maxLen) (hs3 : s.size ≤ 200) (e1 : (((wB s.data.toList).getD 0 ByteArray.empty).toList == [115, 112, 97, 110]) = true) (H10w : ¬ 10 < (wB s.data.toList).length) :
    Calls Tryz.prog 35 #[.string s] w fun e w' => e = .returned (RdW s.data.toList) ∧ Below w.heap.size w w' := by
  have hs2 := hs
  unfold maxLen at hs2
  have hA : Below w.heap.size w (w.alloc (.cells #[.int .i64 0, .int .i64 0, .int .i64 0, .int .i64 0, .int .i64 0, .int .i64 0, .int .i64 0, .int .i64 0, .int .i64 0, .string ⟨#[]⟩, .int .i64 0, .int .i64 0, .int .i64 0] 47)) := (Below.refl _ _).alloc (Nat.le_refl _) _
  replace e1 := (⟨e1⟩ : PLift _)
  replace H10w := (⟨H10w⟩ : PLift _)
  go_enter Tryz.func35, Tryz.ntmps35
  go_upto_region 3 with fail
  obtain ⟨W0, hW0⟩ : ∃ W, w.alloc (.cells #[.int .i64 0, .int .i64 0, .int .i64 0, .int .i64 0, .int .i64 0, .int .i64 0, .int .i64 0, .int .i64 0, .int .i64 0, .string ⟨#[]⟩, .int .i64 0, .int .i64 0, .int .i64 0] 47) = W := ⟨_, rfl⟩
  have rr0 := uq_new w M1.zeroU 47
  unfold M1.zeroU at rr0
  rw [show (ByteArray.empty) = (⟨#[]⟩ : ByteArray) from rfl] at rr0
  rw [hW0] at hA rr0 ⊢
  clear hW0
  have hr0 := rr0.lt
  go_wp2_with fail
  refine (l2Words_any s _ hs3).mono ?_
  rintro e w1 ⟨⟨g, c, n, rfl, hn, own⟩, hb1⟩
  have hB1 := hA.trans (hb1.mono hA.size)
  have wd := wds_of_owns hn.out own
  have hl : Hid (∀ x ∈ wB s.data.toList, x.size ≤ maxLen) := fun x hx => by have := wB_size hs3 x hx; unfold maxLen; omega
  have hn0 : 1 ≤ n := by rw [← hn.out]; unfold wB; rw [List.length_map]; exact List.length_pos_iff.2 (M1.spl_ne _)
  have hnM : n ≤ 201 := by rw [← hn.out]; have := wB_len s.data.toList; rw [M1.len_list] at this; omega
  obtain ⟨xs, hxs⟩ : ∃ xs, Hid (wB s.data.toList = xs) := ⟨_, rfl⟩
  rw [hxs.out] at wd hl
  clear own
  have c1 := wd.cap
  have c2 := wd.most
  unfold maxLen at c2
  obtain ⟨n1, hn1⟩ : ∃ z, Hid (numW xs 1 = z) := ⟨_, rfl⟩
  obtain ⟨n2, hn2⟩ : ∃ z, Hid (numW xs 2 = z) := ⟨_, rfl⟩
  obtain ⟨n3, hn3⟩ : ∃ z, Hid (numW xs 3 = z) := ⟨_, rfl⟩
  obtain ⟨n4, hn4⟩ : ∃ z, Hid (numW xs 4 = z) := ⟨_, rfl⟩
  obtain ⟨n5, hn5⟩ : ∃ z, Hid (numW xs 5 = z) := ⟨_, rfl⟩
  go_wp2_with fail
  refine (l2Num_any g n c 1 xs _ wd (by omega) hl).mono ?_
  rw [hn1.out]
  rintro e w2 ⟨rfl, rfl⟩
  go_wp2_with fail
  refine (l2Num_any g n c 2 xs _ wd (by omega) hl).mono ?_
  rw [hn2.out]
  rintro e w2 ⟨rfl, rfl⟩
  go_wp2_with fail
  refine (l2Num_any g n c 5 xs _ wd (by omega) hl).mono ?_
  rw [hn5.out]
  rintro e w2 ⟨rfl, rfl⟩
  have hA3 : Below w2.heap.size w2 (w2.alloc (.cells #[.int .i64 n1, .int .i64 n2, .int .i64 0, .int .i64 0, .int .i64 0, .int .i64 0, .int .i64 n5, .int .i64 0, .int .i64 0, .string ⟨#[]⟩, .int .i64 0, .int .i64 0, .int .i64 0] 47)) := (Below.refl _ _).alloc (Nat.le_refl _) _
  have rp := uq_new w2 ⟨n1, n2, 0, 0, 0, 0, n5, 0, 0, ⟨#[]⟩, 0, 0, 0⟩ 47
  go_upto_region 5 with fail
  obtain ⟨W3, hW3⟩ : ∃ W, w2.alloc (.cells #[.int .i64 n1, .int .i64 n2, .int .i64 0, .int .i64 0, .int .i64 0, .int .i64 0, .int .i64 n5, .int .i64 0, .int .i64 0, .string ⟨#[]⟩, .int .i64 0, .int .i64 0, .int .i64 0] 47) = W := ⟨_, rfl⟩
  rw [hW3] at hA3 rp ⊢
  clear hW3
  have wd3 := wd.below hA3
  have rr3 := (rr0.below hb1).below hA3
  have hr1 : w.heap.size < w2.heap.size := by have := hb1.size; omega
  have hgp : ¬ w2.heap.size = g := by have := wd.lt; omega
  have hB3 := hB1.trans (hA3.mono hB1.size)
  obtain ⟨p, hp⟩ : ∃ p, Hid (w2.heap.size = p) := ⟨_, rfl⟩
  have hpr : ¬ p = w.heap.size := by have := hp.out; omega
  have hpB : w.heap.size ≤ p := by rw [← hp.out]; exact hB1.size
  rw [hp.out] at rp hgp ⊢
  have q0 : W3.cell? ⟨p, 0, none⟩ = some (.int .i64 n1) := rp.cell (o := 0) (by omega)
  have f2 := rp.free (o := 2) (by omega)
  have f3 := rp.free (o := 3) (by omega)
  have f4 := rp.free (o := 4) (by omega)
  have k2 := rp.cell (o := 2) (by omega)
  have k3 := rp.cell (o := 3) (by omega)
  have k4 := rp.cell (o := 4) (by omega)
  have hpl := rp.lt
  clear hA3 wd
  refine wp_region_held_drew (S := fun w' => w'.cell? ⟨p, 0, none⟩ = some (.int .i64 n1) ∧ WdsIn w' g n c xs) (by kernel_rfl) ?_ (fun hHeld => ?_)
  · exact ⟨q0, wd3.below (Below.refl _ _).drew⟩
  refine wpAnyH_take (i := 0) (v := ?_) rfl (by kernel_rfl) (by kernel_rfl) (by kernel_rfl) (fun _ _ _ h => h) (Or.inl ⟨by rfl, ?_⟩) hHeld ?_
  rotate_left
  · (intro w hSw; (try dsimp only at hSw); go_simp; try (with_reducible rfl))
  (try simp only [Act.put, aZ, bZ, cZ, dZ, eZ, fZ])
  refine wpAnyH_take (i := 2) (v := ?_) rfl (by kernel_rfl) (by kernel_rfl) (by kernel_rfl) (fun _ _ _ h => h) (Or.inl ⟨by rfl, ?_⟩) hHeld ?_
  rotate_left
  · (intro w hSw; (try dsimp only at hSw); go_simp; try (with_reducible rfl))
  (try simp only [Act.put, aZ, bZ, cZ, dZ, eZ, fZ])
  refine wpAnyH_take (i := 4) (v := ?_) rfl (by kernel_rfl) (by kernel_rfl) (by kernel_rfl) (fun _ _ _ h => h) (Or.inl ⟨by rfl, ?_⟩) hHeld ?_
  rotate_left
  · (intro w hSw; (try dsimp only at hSw); go_simp; try (with_reducible rfl))
  (try simp only [Act.put, aZ, bZ, cZ, dZ, eZ, fZ])
  refine wpAnyH_take (i := 5) (v := ?_) rfl (by kernel_rfl) (by kernel_rfl) (by kernel_rfl) (fun _ _ _ h => h) (Or.inl ⟨by rfl, ?_⟩) hHeld ?_
  rotate_left
  · (intro w hSw; (try dsimp only at hSw); go_simp; try (with_reducible rfl))
  (try simp only [Act.put, aZ, bZ, cZ, dZ, eZ, fZ])
  refine wpAnyH_take (i := 6) (v := .int .i64 n1) rfl (by kernel_rfl) (by kernel_rfl) (by kernel_rfl) (fun _ _ _ h => h) (Or.inl ⟨by rfl, ?_⟩) hHeld ?_
  · (intro w hSw; (try dsimp only at hSw); go_simp; (try rw [hSw.1]))
  (try simp only [Act.put, aZ, bZ, cZ, dZ, eZ, fZ])
  refine wpAnyH_ready (rs := [1]) (by kernel_rfl) (by simp) ?_
  refine AllReadyH.cons (o := _) rfl (fun K hK => ?_) AllReadyH.nil
  go_simp
  (refine (l2Num_any g n c 3 xs _ hHeld.2 (by omega) hl).mono ?_; rw [hn3.out]; rintro e w8 ⟨rfl, rfl⟩; go_wp2_with fail)
  refine hK.out _ _ ?_ (fun hHeld2 => ?_)
  · exact hHeld
  clear hK K hHeld
  have hHeld := hHeld2
  clear hHeld2
  (try simp only [Act.put, aZ, bZ, cZ, dZ, eZ, fZ])
  refine wpAnyH_ready (rs := [3]) (by kernel_rfl) (by simp) ?_
  refine AllReadyH.cons (o := _) rfl (fun K hK => ?_) AllReadyH.nil
  go_simp
  (refine (l2Num_any g n c 4 xs _ hHeld.2 (by omega) hl).mono ?_; rw [hn4.out]; rintro e w8 ⟨rfl, rfl⟩; go_wp2_with fail)
  refine hK.out _ _ ?_ (fun hHeld2 => ?_)
  · exact hHeld
  clear hK K hHeld
  have hHeld := hHeld2
  clear hHeld2
  (try simp only [Act.put, aZ, bZ, cZ, dZ, eZ, fZ])
  refine wpAnyH_take (i := 7) (v := ?_) rfl (by kernel_rfl) (by kernel_rfl) (by kernel_rfl) (fun _ _ _ h => h) (Or.inl ⟨by rfl, ?_⟩) hHeld ?_
  rotate_left
  · (intro w hSw; (try dsimp only at hSw); go_simp; try (with_reducible rfl))
  (try simp only [Act.put, aZ, bZ, cZ, dZ, eZ, fZ])
  refine wpAnyH_take (i := 8) (v := ?_) rfl (by kernel_rfl) (by kernel_rfl) (by kernel_rfl) (fun _ _ _ h => h) (Or.inl ⟨by rfl, ?_⟩) hHeld ?_
  rotate_left
  · (intro w hSw; (try dsimp only at hSw); go_simp; try (with_reducible rfl))
  (try simp only [Act.put, aZ, bZ, cZ, dZ, eZ, fZ])
  refine wpAnyH_ready (rs := [9]) (by kernel_rfl) (by simp) ?_
  refine AllReadyH.cons (o := _) rfl (fun K hK => ?_) AllReadyH.nil
  go_simp
  skip
  refine hK.out _ _ ?_ (fun hHeld2 => ?_)
  · exact ⟨(World.cell?_setCell_other _ _ _ _ (by simp)).trans ((World.cell?_setCell_other _ _ _ _ (by simp)).trans ((World.cell?_setCell_other _ _ _ _ (by simp)).trans hHeld.1)), ((hHeld.2.setO hgp).setO hgp).setO hgp⟩
  clear hK K hHeld
  have hHeld := hHeld2
  clear hHeld2
  (try simp only [Act.put, aZ, bZ, cZ, dZ, eZ, fZ])
  refine wpAnyH_done (by kernel_rfl) ?_ _
  have rp5 : RowAt (((W3.setCell ⟨p, 2, none⟩ (.int .i64 n3)).setCell ⟨p, 3, none⟩ (.int .i64 n4)).setCell ⟨p, 4, none⟩ (.int .i64 n1)).drew p 13 (uq ⟨n1, n2, n3, n4, n1, 0, n5, 0, 0, ⟨#[]⟩, 0, 0, 0⟩) := ((((rp.set (o := 2) (by omega) (.int .i64 n3)).set (o := 3) (by omega) (.int .i64 n4)).set (o := 4) (by omega) (.int .i64 n1)).drew).same (uq_same rfl rfl rfl rfl rfl rfl rfl rfl rfl rfl rfl rfl rfl)
  have wd5 : WdsIn (((W3.setCell ⟨p, 2, none⟩ (.int .i64 n3)).setCell ⟨p, 3, none⟩ (.int .i64 n4)).setCell ⟨p, 4, none⟩ (.int .i64 n1)).drew g n c xs := (((wd3.setO hgp).setO hgp).setO hgp).below (Below.refl _ _).drew
  have hB5 : Below w.heap.size w (((W3.setCell ⟨p, 2, none⟩ (.int .i64 n3)).setCell ⟨p, 3, none⟩ (.int .i64 n4)).setCell ⟨p, 4, none⟩ (.int .i64 n1)).drew := (((hB3.setCell (p := ⟨p, 2, none⟩) hpB _).setCell (p := ⟨p, 3, none⟩) hpB _).setCell (p := ⟨p, 4, none⟩) hpB _).drew
  have rr5 := (((rr3.far (p := ⟨p, 2, none⟩) hpr (.int .i64 n3)).far (p := ⟨p, 3, none⟩) hpr (.int .i64 n4)).far (p := ⟨p, 4, none⟩) hpr (.int .i64 n1)).drew
  generalize (((W3.setCell ⟨p, 2, none⟩ (.int .i64 n3)).setCell ⟨p, 3, none⟩ (.int .i64 n4)).setCell ⟨p, 4, none⟩ (.int .i64 n1)).drew = W5 at rp5 wd5 hB5 hHeld rr5 ⊢
  clear rp wd3 hB3 q0 f2 f3 f4 k2 k3 k4 hpl hHeld
  obtain ⟨x0, hx0⟩ : ∃ x, Hid (xs.getD 0 ByteArray.empty = x) := ⟨_, rfl⟩
  have d0 := wd5.cell 0 (by omega)
  rw [hx0.out] at d0
  have hgl := wd5.lt
  have hpl := rp5.lt
  have z0 : (0 : Int) < (n : Int) := by omega
  obtain ⟨n6, hn6⟩ : ∃ z, Hid (numW xs 6 = z) := ⟨_, rfl⟩
  have f5 := rp5.free (o := 5) (by omega)
  have q5 := rp5.cell (o := 5) (by omega)
  replace e1 := e1.down
  rw [hxs.out, hx0.out] at e1
  replace H10w := H10w.down
  rw [hxs.out] at H10w
  obtain ⟨n7, hn7⟩ : ∃ z, Hid (numW xs 7 = z) := ⟨_, rfl⟩
  obtain ⟨n8, hn8⟩ : ∃ z, Hid (numW xs 8 = z) := ⟨_, rfl⟩
  obtain ⟨n9, hn9⟩ : ∃ z, Hid (numW xs 9 = z) := ⟨_, rfl⟩
  have rp6 : RowAt (W5.setCell ⟨p, 5, none⟩ (.int .i64 1)) p 13 (uq ⟨n1, n2, n3, n4, n1, 1, n5, 0, 0, ⟨#[]⟩, 0, 0, 0⟩) := (rp5.set (o := 5) (by omega) (.int .i64 1)).same (uq_same rfl rfl rfl rfl rfl rfl rfl rfl rfl rfl rfl rfl rfl)
  have rr6 := rr5.far (p := ⟨p, 5, none⟩) hpr (.int .i64 1)
  have hB6 := hB5.setCell (p := ⟨p, 5, none⟩) hpB (.int .i64 1)
  have wd6 := wd5.setO hgp (o := 5) (v := .int .i64 1)
  go_upto_region 9 with fail
  generalize W5.setCell ⟨p, 5, none⟩ (.int .i64 1) = W6 at rp6 rr6 hB6 wd6 ⊢
  clear q5 f5 d0 rp5 wd5 hB5 rr5
  go_wp2_with fail
  refine (l2Num_any g n c 6 xs _ wd6 (by omega) hl).mono ?_
  rw [hn6.out]
  rintro e wx ⟨rfl, rfl⟩
  go_wp2_with fail
  refine (l2Num_any g n c 7 xs _ wd6 (by omega) hl).mono ?_
  rw [hn7.out]
  rintro e wx ⟨rfl, rfl⟩
  go_wp2_with fail
  refine (l2Num_any g n c 8 xs _ wd6 (by omega) hl).mono ?_
  rw [hn8.out]
  rintro e wx ⟨rfl, rfl⟩
  go_wp2_with fail
  refine (l2Num_any g n c 9 xs _ wd6 (by omega) hl).mono ?_
  rw [hn9.out]
  rintro e wx ⟨rfl, rfl⟩
  have rp7 : RowAt (((((wx.setCell ⟨p, 7, none⟩ (.int .i64 n6)).setCell ⟨p, 8, none⟩ (.int .i64 n7)).setCell ⟨p, 9, none⟩ (.string ⟨#[]⟩)).setCell ⟨p, 10, none⟩ (.int .i64 n8)).setCell ⟨p, 11, none⟩ (.int .i64 n9)) p 13 (uq ⟨n1, n2, n3, n4, n1, 1, n5, n6, n7, ⟨#[]⟩, n8, n9, 0⟩) := (((((rp6.set (o := 7) (by omega) (.int .i64 n6)).set (o := 8) (by omega) (.int .i64 n7)).set (o := 9) (by omega) (.string ⟨#[]⟩)).set (o := 10) (by omega) (.int .i64 n8)).set (o := 11) (by omega) (.int .i64 n9)).same (uq_same rfl rfl rfl rfl rfl rfl rfl rfl rfl rfl rfl rfl rfl)
  have rr7 := ((((rr6.far (p := ⟨p, 7, none⟩) hpr (.int .i64 n6)).far (p := ⟨p, 8, none⟩) hpr (.int .i64 n7)).far (p := ⟨p, 9, none⟩) hpr (.string ⟨#[]⟩)).far (p := ⟨p, 10, none⟩) hpr (.int .i64 n8)).far (p := ⟨p, 11, none⟩) hpr (.int .i64 n9)
  have hB7 := ((((hB6.setCell (p := ⟨p, 7, none⟩) hpB (.int .i64 n6)).setCell (p := ⟨p, 8, none⟩) hpB (.int .i64 n7)).setCell (p := ⟨p, 9, none⟩) hpB (.string ⟨#[]⟩)).setCell (p := ⟨p, 10, none⟩) hpB (.int .i64 n8)).setCell (p := ⟨p, 11, none⟩) hpB (.int .i64 n9)
  have wd7 := ((((wd6.setO hgp (o := 7) (v := .int .i64 n6)).setO hgp (o := 8) (v := .int .i64 n7)).setO hgp (o := 9) (v := .string ⟨#[]⟩)).setO hgp (o := 10) (v := .int .i64 n8)).setO hgp (o := 11) (v := .int .i64 n9)
  obtain ⟨c0, c1, c2, c3, c4, c5, c6, c7, c8, c9, c10, c11, c12⟩ := uq_cells rp6
  obtain ⟨y0, y1, y2, y3, y4, y5, y6, y7, y8, y9, y10, y11, y12⟩ := uq_free rp6
  have cl := rp6.lt
  go_upto_region 10 with fail
  clear c0 c1 c2 c3 c4 c5 c6 c7 c8 c9 c10 c11 c12 y0 y1 y2 y3 y4 y5 y6 y7 y8 y9 y10 y11 y12 cl
  generalize ((((wx.setCell ⟨p, 7, none⟩ (.int .i64 n6)).setCell ⟨p, 8, none⟩ (.int .i64 n7)).setCell ⟨p, 9, none⟩ (.string ⟨#[]⟩)).setCell ⟨p, 10, none⟩ (.int .i64 n8)).setCell ⟨p, 11, none⟩ (.int .i64 n9) = W7 at rp7 rr7 hB7 wd7 ⊢
  clear rp6 rr6 hB6 wd6
  have hlx : Hid (xs.length = n) := wd7.len
  have h10 : ¬ 10 < n := by rw [← hlx.out]; exact H10w
  have H10 : Hid (¬ 10 < xs.length) := (by rw [hlx.out]; exact h10 : ¬ 10 < xs.length)
  have rrW := rr7
  have hBW := hB7
  have i10 : (n : Int) ≤ 10 := by omega
  go_upto_region 17 with fail
  have HG : Hid (guU xs = ⟨n1, n2, n3, n4, n1, 1, n5, n6, n7, ⟨#[]⟩, n8, n9, 0⟩) := (by unfold guU; rw [hx0.out, if_pos (show x0.data.toList = M1.wSpan from tl_iff.1 e1), if_neg H10.out, hn1.out, hn2.out, hn3.out, hn4.out, hn5.out, hn6.out, hn7.out, hn8.out, hn9.out]; try rfl : _ = _)
  have HGS : Hid (guU (wB s.data.toList) = ⟨n1, n2, n3, n4, n1, 1, n5, n6, n7, ⟨#[]⟩, n8, n9, 0⟩) := (by rw [hxs.out]; exact HG.out : _ = _)
  obtain ⟨x, hx⟩ : ∃ x, Hid (M1.utx ⟨n1, n2, n3, n4, n1, 1, n5, n6, n7, ⟨#[]⟩, n8, n9, 0⟩ = x) := ⟨_, rfl⟩
  obtain ⟨c0, c1, c2, c3, c4, c5, c6, c7, c8, c9, c10, c11, c12⟩ := uq_cells rp7
  have cl := (rp7).lt
  go_wp2_with fail
  refine (updateText_spec ⟨n1, n2, n3, n4, n1, 1, n5, n6, n7, ⟨#[]⟩, n8, n9, 0⟩ _ (by show (⟨#[]⟩ : ByteArray).size ≤ maxLen; unfold maxLen; decide)).mono ?_
  rw [hx.out]
  rintro e w9 ⟨rfl, hb9⟩
  have rp9 := (rp7).below hb9
  have rr9 := rrW.below hb9
  have hB9 := hBW.trans (hb9.mono hBW.size)
  clear c0 c1 c2 c3 c4 c5 c6 c7 c8 c9 c10 c11 c12 cl
  obtain ⟨c0, c1, c2, c3, c4, c5, c6, c7, c8, c9, c10, c11, c12⟩ := uq_cells rp9
  obtain ⟨r0, r1, r2, r3, r4, r5, r6, r7, r8, r9, r10, r11, r12⟩ := uq_cells rr9
  obtain ⟨y0, y1, y2, y3, y4, y5, y6, y7, y8, y9, y10, y11, y12⟩ := uq_free rr9
  have cl := rp9.lt
  have rl := rr9.lt
  go_wp2_with fail
  · rename_i h1 h2
    have HR : Hid (RdW s.data.toList = .tuple #[.agg #[.int .i64 0, .int .i64 0, .int .i64 0, .int .i64 0, .int .i64 0, .int .i64 0, .int .i64 0, .int .i64 0, .int .i64 0, .string ByteArray.empty, .int .i64 0, .int .i64 0, .int .i64 0], .bool false]) := rd_no2 h2
    have rr10 : RowAt (((((((((((((w9.setCell ⟨w.heap.size, 0, none⟩ (.int .i64 0)).setCell ⟨w.heap.size, 1, none⟩ (.int .i64 0)).setCell ⟨w.heap.size, 2, none⟩ (.int .i64 0)).setCell ⟨w.heap.size, 3, none⟩ (.int .i64 0)).setCell ⟨w.heap.size, 4, none⟩ (.int .i64 0)).setCell ⟨w.heap.size, 5, none⟩ (.int .i64 0)).setCell ⟨w.heap.size, 6, none⟩ (.int .i64 0)).setCell ⟨w.heap.size, 7, none⟩ (.int .i64 0)).setCell ⟨w.heap.size, 8, none⟩ (.int .i64 0)).setCell ⟨w.heap.size, 9, none⟩ (.string ⟨#[]⟩)).setCell ⟨w.heap.size, 10, none⟩ (.int .i64 0)).setCell ⟨w.heap.size, 11, none⟩ (.int .i64 0)).setCell ⟨w.heap.size, 12, none⟩ (.int .i64 0)) w.heap.size 13 (uq M1.zeroU) := uq_put rr9 M1.zeroU
    have hB10 : Below w.heap.size w (((((((((((((w9.setCell ⟨w.heap.size, 0, none⟩ (.int .i64 0)).setCell ⟨w.heap.size, 1, none⟩ (.int .i64 0)).setCell ⟨w.heap.size, 2, none⟩ (.int .i64 0)).setCell ⟨w.heap.size, 3, none⟩ (.int .i64 0)).setCell ⟨w.heap.size, 4, none⟩ (.int .i64 0)).setCell ⟨w.heap.size, 5, none⟩ (.int .i64 0)).setCell ⟨w.heap.size, 6, none⟩ (.int .i64 0)).setCell ⟨w.heap.size, 7, none⟩ (.int .i64 0)).setCell ⟨w.heap.size, 8, none⟩ (.int .i64 0)).setCell ⟨w.heap.size, 9, none⟩ (.string ⟨#[]⟩)).setCell ⟨w.heap.size, 10, none⟩ (.int .i64 0)).setCell ⟨w.heap.size, 11, none⟩ (.int .i64 0)).setCell ⟨w.heap.size, 12, none⟩ (.int .i64 0)) := bel_put hB9 (Nat.le_refl _) M1.zeroU
    clear c0 c1 c2 c3 c4 c5 c6 c7 c8 c9 c10 c11 c12 r0 r1 r2 r3 r4 r5 r6 r7 r8 r9 r10 r11 r12 y0 y1 y2 y3 y4 y5 y6 y7 y8 y9 y10 y11 y12 rp9 rr9
    obtain ⟨W10, hW10⟩ : ∃ W, (((((((((((((w9.setCell ⟨w.heap.size, 0, none⟩ (.int .i64 0)).setCell ⟨w.heap.size, 1, none⟩ (.int .i64 0)).setCell ⟨w.heap.size, 2, none⟩ (.int .i64 0)).setCell ⟨w.heap.size, 3, none⟩ (.int .i64 0)).setCell ⟨w.heap.size, 4, none⟩ (.int .i64 0)).setCell ⟨w.heap.size, 5, none⟩ (.int .i64 0)).setCell ⟨w.heap.size, 6, none⟩ (.int .i64 0)).setCell ⟨w.heap.size, 7, none⟩ (.int .i64 0)).setCell ⟨w.heap.size, 8, none⟩ (.int .i64 0)).setCell ⟨w.heap.size, 9, none⟩ (.string ⟨#[]⟩)).setCell ⟨w.heap.size, 10, none⟩ (.int .i64 0)).setCell ⟨w.heap.size, 11, none⟩ (.int .i64 0)).setCell ⟨w.heap.size, 12, none⟩ (.int .i64 0)) = W := ⟨_, rfl⟩
    rw [hW10] at rr10 hB10 ⊢
    clear hW10
    obtain ⟨v0, v1, v2, v3, v4, v5, v6, v7, v8, v9, v10, v11, v12⟩ := uq_cells rr10
    unfold M1.zeroU at v0 v1 v2 v3 v4 v5 v6 v7 v8 v9 v10 v11 v12
    refine bodyPost_ret (v := .tuple #[.agg #[.int .i64 0, .int .i64 0, .int .i64 0, .int .i64 0, .int .i64 0, .int .i64 0, .int .i64 0, .int .i64 0, .int .i64 0, .string ByteArray.empty, .int .i64 0, .int .i64 0, .int .i64 0], .bool false]) (by simp [results, Tryz.results35, go_sem, v0, v1, v2, v3, v4, v5, v6, v7, v8, v9, v10, v11, v12]) rfl ?_
    exact ⟨by rw [HR.out], hB10⟩
  · rename_i h1 h2
    have HR : Hid (RdW s.data.toList = .tuple #[.agg #[.int .i64 n1, .int .i64 n2, .int .i64 n3, .int .i64 n4, .int .i64 n1, .int .i64 1, .int .i64 n5, .int .i64 n6, .int .i64 n7, .string ⟨#[]⟩, .int .i64 n8, .int .i64 n9, .int .i64 0], .bool true]) := rd_yes HGS.out hx.out h1 h2
    have rr10 : RowAt (((((((((((((w9.setCell ⟨w.heap.size, 0, none⟩ (.int .i64 n1)).setCell ⟨w.heap.size, 1, none⟩ (.int .i64 n2)).setCell ⟨w.heap.size, 2, none⟩ (.int .i64 n3)).setCell ⟨w.heap.size, 3, none⟩ (.int .i64 n4)).setCell ⟨w.heap.size, 4, none⟩ (.int .i64 n1)).setCell ⟨w.heap.size, 5, none⟩ (.int .i64 1)).setCell ⟨w.heap.size, 6, none⟩ (.int .i64 n5)).setCell ⟨w.heap.size, 7, none⟩ (.int .i64 n6)).setCell ⟨w.heap.size, 8, none⟩ (.int .i64 n7)).setCell ⟨w.heap.size, 9, none⟩ (.string ⟨#[]⟩)).setCell ⟨w.heap.size, 10, none⟩ (.int .i64 n8)).setCell ⟨w.heap.size, 11, none⟩ (.int .i64 n9)).setCell ⟨w.heap.size, 12, none⟩ (.int .i64 0)) w.heap.size 13 (uq ⟨n1, n2, n3, n4, n1, 1, n5, n6, n7, ⟨#[]⟩, n8, n9, 0⟩) := uq_put rr9 ⟨n1, n2, n3, n4, n1, 1, n5, n6, n7, ⟨#[]⟩, n8, n9, 0⟩
    have hB10 : Below w.heap.size w (((((((((((((w9.setCell ⟨w.heap.size, 0, none⟩ (.int .i64 n1)).setCell ⟨w.heap.size, 1, none⟩ (.int .i64 n2)).setCell ⟨w.heap.size, 2, none⟩ (.int .i64 n3)).setCell ⟨w.heap.size, 3, none⟩ (.int .i64 n4)).setCell ⟨w.heap.size, 4, none⟩ (.int .i64 n1)).setCell ⟨w.heap.size, 5, none⟩ (.int .i64 1)).setCell ⟨w.heap.size, 6, none⟩ (.int .i64 n5)).setCell ⟨w.heap.size, 7, none⟩ (.int .i64 n6)).setCell ⟨w.heap.size, 8, none⟩ (.int .i64 n7)).setCell ⟨w.heap.size, 9, none⟩ (.string ⟨#[]⟩)).setCell ⟨w.heap.size, 10, none⟩ (.int .i64 n8)).setCell ⟨w.heap.size, 11, none⟩ (.int .i64 n9)).setCell ⟨w.heap.size, 12, none⟩ (.int .i64 0)) := bel_put hB9 (Nat.le_refl _) ⟨n1, n2, n3, n4, n1, 1, n5, n6, n7, ⟨#[]⟩, n8, n9, 0⟩
    clear c0 c1 c2 c3 c4 c5 c6 c7 c8 c9 c10 c11 c12 r0 r1 r2 r3 r4 r5 r6 r7 r8 r9 r10 r11 r12 y0 y1 y2 y3 y4 y5 y6 y7 y8 y9 y10 y11 y12 rp9 rr9
    obtain ⟨W10, hW10⟩ : ∃ W, (((((((((((((w9.setCell ⟨w.heap.size, 0, none⟩ (.int .i64 n1)).setCell ⟨w.heap.size, 1, none⟩ (.int .i64 n2)).setCell ⟨w.heap.size, 2, none⟩ (.int .i64 n3)).setCell ⟨w.heap.size, 3, none⟩ (.int .i64 n4)).setCell ⟨w.heap.size, 4, none⟩ (.int .i64 n1)).setCell ⟨w.heap.size, 5, none⟩ (.int .i64 1)).setCell ⟨w.heap.size, 6, none⟩ (.int .i64 n5)).setCell ⟨w.heap.size, 7, none⟩ (.int .i64 n6)).setCell ⟨w.heap.size, 8, none⟩ (.int .i64 n7)).setCell ⟨w.heap.size, 9, none⟩ (.string ⟨#[]⟩)).setCell ⟨w.heap.size, 10, none⟩ (.int .i64 n8)).setCell ⟨w.heap.size, 11, none⟩ (.int .i64 n9)).setCell ⟨w.heap.size, 12, none⟩ (.int .i64 0)) = W := ⟨_, rfl⟩
    rw [hW10] at rr10 hB10 ⊢
    clear hW10
    obtain ⟨v0, v1, v2, v3, v4, v5, v6, v7, v8, v9, v10, v11, v12⟩ := uq_cells rr10
    refine bodyPost_ret (v := .tuple #[.agg #[.int .i64 n1, .int .i64 n2, .int .i64 n3, .int .i64 n4, .int .i64 n1, .int .i64 1, .int .i64 n5, .int .i64 n6, .int .i64 n7, .string ⟨#[]⟩, .int .i64 n8, .int .i64 n9, .int .i64 0], .bool true]) (by simp [results, Tryz.results35, go_sem, v0, v1, v2, v3, v4, v5, v6, v7, v8, v9, v10, v11, v12]) rfl ?_
    exact ⟨by rw [HR.out], hB10⟩
  · rename_i h1
    have HR : Hid (RdW s.data.toList = .tuple #[.agg #[.int .i64 0, .int .i64 0, .int .i64 0, .int .i64 0, .int .i64 0, .int .i64 0, .int .i64 0, .int .i64 0, .int .i64 0, .string ByteArray.empty, .int .i64 0, .int .i64 0, .int .i64 0], .bool false]) := rd_no1 HGS.out hx.out h1
    have rr10 : RowAt (((((((((((((w9.setCell ⟨w.heap.size, 0, none⟩ (.int .i64 0)).setCell ⟨w.heap.size, 1, none⟩ (.int .i64 0)).setCell ⟨w.heap.size, 2, none⟩ (.int .i64 0)).setCell ⟨w.heap.size, 3, none⟩ (.int .i64 0)).setCell ⟨w.heap.size, 4, none⟩ (.int .i64 0)).setCell ⟨w.heap.size, 5, none⟩ (.int .i64 0)).setCell ⟨w.heap.size, 6, none⟩ (.int .i64 0)).setCell ⟨w.heap.size, 7, none⟩ (.int .i64 0)).setCell ⟨w.heap.size, 8, none⟩ (.int .i64 0)).setCell ⟨w.heap.size, 9, none⟩ (.string ⟨#[]⟩)).setCell ⟨w.heap.size, 10, none⟩ (.int .i64 0)).setCell ⟨w.heap.size, 11, none⟩ (.int .i64 0)).setCell ⟨w.heap.size, 12, none⟩ (.int .i64 0)) w.heap.size 13 (uq M1.zeroU) := uq_put rr9 M1.zeroU
    have hB10 : Below w.heap.size w (((((((((((((w9.setCell ⟨w.heap.size, 0, none⟩ (.int .i64 0)).setCell ⟨w.heap.size, 1, none⟩ (.int .i64 0)).setCell ⟨w.heap.size, 2, none⟩ (.int .i64 0)).setCell ⟨w.heap.size, 3, none⟩ (.int .i64 0)).setCell ⟨w.heap.size, 4, none⟩ (.int .i64 0)).setCell ⟨w.heap.size, 5, none⟩ (.int .i64 0)).setCell ⟨w.heap.size, 6, none⟩ (.int .i64 0)).setCell ⟨w.heap.size, 7, none⟩ (.int .i64 0)).setCell ⟨w.heap.size, 8, none⟩ (.int .i64 0)).setCell ⟨w.heap.size, 9, none⟩ (.string ⟨#[]⟩)).setCell ⟨w.heap.size, 10, none⟩ (.int .i64 0)).setCell ⟨w.heap.size, 11, none⟩ (.int .i64 0)).setCell ⟨w.heap.size, 12, none⟩ (.int .i64 0)) := bel_put hB9 (Nat.le_refl _) M1.zeroU
    clear c0 c1 c2 c3 c4 c5 c6 c7 c8 c9 c10 c11 c12 r0 r1 r2 r3 r4 r5 r6 r7 r8 r9 r10 r11 r12 y0 y1 y2 y3 y4 y5 y6 y7 y8 y9 y10 y11 y12 rp9 rr9
    obtain ⟨W10, hW10⟩ : ∃ W, (((((((((((((w9.setCell ⟨w.heap.size, 0, none⟩ (.int .i64 0)).setCell ⟨w.heap.size, 1, none⟩ (.int .i64 0)).setCell ⟨w.heap.size, 2, none⟩ (.int .i64 0)).setCell ⟨w.heap.size, 3, none⟩ (.int .i64 0)).setCell ⟨w.heap.size, 4, none⟩ (.int .i64 0)).setCell ⟨w.heap.size, 5, none⟩ (.int .i64 0)).setCell ⟨w.heap.size, 6, none⟩ (.int .i64 0)).setCell ⟨w.heap.size, 7, none⟩ (.int .i64 0)).setCell ⟨w.heap.size, 8, none⟩ (.int .i64 0)).setCell ⟨w.heap.size, 9, none⟩ (.string ⟨#[]⟩)).setCell ⟨w.heap.size, 10, none⟩ (.int .i64 0)).setCell ⟨w.heap.size, 11, none⟩ (.int .i64 0)).setCell ⟨w.heap.size, 12, none⟩ (.int .i64 0)) = W := ⟨_, rfl⟩
    rw [hW10] at rr10 hB10 ⊢
    clear hW10
    obtain ⟨v0, v1, v2, v3, v4, v5, v6, v7, v8, v9, v10, v11, v12⟩ := uq_cells rr10
    unfold M1.zeroU at v0 v1 v2 v3 v4 v5 v6 v7 v8 v9 v10 v11 v12
    refine bodyPost_ret (v := .tuple #[.agg #[.int .i64 0, .int .i64 0, .int .i64 0, .int .i64 0, .int .i64 0, .int .i64 0, .int .i64 0, .int .i64 0, .int .i64 0, .string ByteArray.empty, .int .i64 0, .int .i64 0, .int .i64 0], .bool false]) (by simp [results, Tryz.results35, go_sem, v0, v1, v2, v3, v4, v5, v6, v7, v8, v9, v10, v11, v12]) rfl ?_
    exact ⟨by rw [HR.out], hB10⟩

set_option maxHeartbeats 8000000 in
set_option maxRecDepth 100000 in
theorem ru_keep (s : ByteArray) (w : World) (hs : s.size ≤ maxLen) (hs3 : s.size ≤ 200) (e1 : ¬ (((wB s.data.toList).getD 0 ByteArray.empty).toList == [115, 112, 97, 110]) = true) (e2 : (((wB s.data.toList).getD 0 ByteArray.empty).toList == [107, 101, 101, 112]) = true) :
    Calls Tryz.prog 35 #[.string s] w fun e w' => e = .returned (RdW s.data.toList) ∧ Below w.heap.size w w' := by
  have hs2 := hs
  unfold maxLen at hs2
  have hA : Below w.heap.size w (w.alloc (.cells #[.int .i64 0, .int .i64 0, .int .i64 0, .int .i64 0, .int .i64 0, .int .i64 0, .int .i64 0, .int .i64 0, .int .i64 0, .string ⟨#[]⟩, .int .i64 0, .int .i64 0, .int .i64 0] 47)) := (Below.refl _ _).alloc (Nat.le_refl _) _
  replace e1 := (⟨e1⟩ : PLift _)
  replace e2 := (⟨e2⟩ : PLift _)
  go_enter Tryz.func35, Tryz.ntmps35
  go_upto_region 3 with fail
  obtain ⟨W0, hW0⟩ : ∃ W, w.alloc (.cells #[.int .i64 0, .int .i64 0, .int .i64 0, .int .i64 0, .int .i64 0, .int .i64 0, .int .i64 0, .int .i64 0, .int .i64 0, .string ⟨#[]⟩, .int .i64 0, .int .i64 0, .int .i64 0] 47) = W := ⟨_, rfl⟩
  have rr0 := uq_new w M1.zeroU 47
  unfold M1.zeroU at rr0
  rw [show (ByteArray.empty) = (⟨#[]⟩ : ByteArray) from rfl] at rr0
  rw [hW0] at hA rr0 ⊢
  clear hW0
  have hr0 := rr0.lt
  go_wp2_with fail
  refine (l2Words_any s _ hs3).mono ?_
  rintro e w1 ⟨⟨g, c, n, rfl, hn, own⟩, hb1⟩
  have hB1 := hA.trans (hb1.mono hA.size)
  have wd := wds_of_owns hn.out own
  have hl : Hid (∀ x ∈ wB s.data.toList, x.size ≤ maxLen) := fun x hx => by have := wB_size hs3 x hx; unfold maxLen; omega
  have hn0 : 1 ≤ n := by rw [← hn.out]; unfold wB; rw [List.length_map]; exact List.length_pos_iff.2 (M1.spl_ne _)
  have hnM : n ≤ 201 := by rw [← hn.out]; have := wB_len s.data.toList; rw [M1.len_list] at this; omega
  obtain ⟨xs, hxs⟩ : ∃ xs, Hid (wB s.data.toList = xs) := ⟨_, rfl⟩
  rw [hxs.out] at wd hl
  clear own
  have c1 := wd.cap
  have c2 := wd.most
  unfold maxLen at c2
  obtain ⟨n1, hn1⟩ : ∃ z, Hid (numW xs 1 = z) := ⟨_, rfl⟩
  obtain ⟨n2, hn2⟩ : ∃ z, Hid (numW xs 2 = z) := ⟨_, rfl⟩
  obtain ⟨n3, hn3⟩ : ∃ z, Hid (numW xs 3 = z) := ⟨_, rfl⟩
  obtain ⟨n4, hn4⟩ : ∃ z, Hid (numW xs 4 = z) := ⟨_, rfl⟩
  obtain ⟨n5, hn5⟩ : ∃ z, Hid (numW xs 5 = z) := ⟨_, rfl⟩
  go_wp2_with fail
  refine (l2Num_any g n c 1 xs _ wd (by omega) hl).mono ?_
  rw [hn1.out]
  rintro e w2 ⟨rfl, rfl⟩
  go_wp2_with fail
  refine (l2Num_any g n c 2 xs _ wd (by omega) hl).mono ?_
  rw [hn2.out]
  rintro e w2 ⟨rfl, rfl⟩
  go_wp2_with fail
  refine (l2Num_any g n c 5 xs _ wd (by omega) hl).mono ?_
  rw [hn5.out]
  rintro e w2 ⟨rfl, rfl⟩
  have hA3 : Below w2.heap.size w2 (w2.alloc (.cells #[.int .i64 n1, .int .i64 n2, .int .i64 0, .int .i64 0, .int .i64 0, .int .i64 0, .int .i64 n5, .int .i64 0, .int .i64 0, .string ⟨#[]⟩, .int .i64 0, .int .i64 0, .int .i64 0] 47)) := (Below.refl _ _).alloc (Nat.le_refl _) _
  have rp := uq_new w2 ⟨n1, n2, 0, 0, 0, 0, n5, 0, 0, ⟨#[]⟩, 0, 0, 0⟩ 47
  go_upto_region 5 with fail
  obtain ⟨W3, hW3⟩ : ∃ W, w2.alloc (.cells #[.int .i64 n1, .int .i64 n2, .int .i64 0, .int .i64 0, .int .i64 0, .int .i64 0, .int .i64 n5, .int .i64 0, .int .i64 0, .string ⟨#[]⟩, .int .i64 0, .int .i64 0, .int .i64 0] 47) = W := ⟨_, rfl⟩
  rw [hW3] at hA3 rp ⊢
  clear hW3
  have wd3 := wd.below hA3
  have rr3 := (rr0.below hb1).below hA3
  have hr1 : w.heap.size < w2.heap.size := by have := hb1.size; omega
  have hgp : ¬ w2.heap.size = g := by have := wd.lt; omega
  have hB3 := hB1.trans (hA3.mono hB1.size)
  obtain ⟨p, hp⟩ : ∃ p, Hid (w2.heap.size = p) := ⟨_, rfl⟩
  have hpr : ¬ p = w.heap.size := by have := hp.out; omega
  have hpB : w.heap.size ≤ p := by rw [← hp.out]; exact hB1.size
  rw [hp.out] at rp hgp ⊢
  have q0 : W3.cell? ⟨p, 0, none⟩ = some (.int .i64 n1) := rp.cell (o := 0) (by omega)
  have f2 := rp.free (o := 2) (by omega)
  have f3 := rp.free (o := 3) (by omega)
  have f4 := rp.free (o := 4) (by omega)
  have k2 := rp.cell (o := 2) (by omega)
  have k3 := rp.cell (o := 3) (by omega)
  have k4 := rp.cell (o := 4) (by omega)
  have hpl := rp.lt
  clear hA3 wd
  refine wp_region_held_drew (S := fun w' => w'.cell? ⟨p, 0, none⟩ = some (.int .i64 n1) ∧ WdsIn w' g n c xs) (by kernel_rfl) ?_ (fun hHeld => ?_)
  · exact ⟨q0, wd3.below (Below.refl _ _).drew⟩
  refine wpAnyH_take (i := 0) (v := ?_) rfl (by kernel_rfl) (by kernel_rfl) (by kernel_rfl) (fun _ _ _ h => h) (Or.inl ⟨by rfl, ?_⟩) hHeld ?_
  rotate_left
  · (intro w hSw; (try dsimp only at hSw); go_simp; try (with_reducible rfl))
  (try simp only [Act.put, aZ, bZ, cZ, dZ, eZ, fZ])
  refine wpAnyH_take (i := 2) (v := ?_) rfl (by kernel_rfl) (by kernel_rfl) (by kernel_rfl) (fun _ _ _ h => h) (Or.inl ⟨by rfl, ?_⟩) hHeld ?_
  rotate_left
  · (intro w hSw; (try dsimp only at hSw); go_simp; try (with_reducible rfl))
  (try simp only [Act.put, aZ, bZ, cZ, dZ, eZ, fZ])
  refine wpAnyH_take (i := 4) (v := ?_) rfl (by kernel_rfl) (by kernel_rfl) (by kernel_rfl) (fun _ _ _ h => h) (Or.inl ⟨by rfl, ?_⟩) hHeld ?_
  rotate_left
  · (intro w hSw; (try dsimp only at hSw); go_simp; try (with_reducible rfl))
  (try simp only [Act.put, aZ, bZ, cZ, dZ, eZ, fZ])
  refine wpAnyH_take (i := 5) (v := ?_) rfl (by kernel_rfl) (by kernel_rfl) (by kernel_rfl) (fun _ _ _ h => h) (Or.inl ⟨by rfl, ?_⟩) hHeld ?_
  rotate_left
  · (intro w hSw; (try dsimp only at hSw); go_simp; try (with_reducible rfl))
  (try simp only [Act.put, aZ, bZ, cZ, dZ, eZ, fZ])
  refine wpAnyH_take (i := 6) (v := .int .i64 n1) rfl (by kernel_rfl) (by kernel_rfl) (by kernel_rfl) (fun _ _ _ h => h) (Or.inl ⟨by rfl, ?_⟩) hHeld ?_
  · (intro w hSw; (try dsimp only at hSw); go_simp; (try rw [hSw.1]))
  (try simp only [Act.put, aZ, bZ, cZ, dZ, eZ, fZ])
  refine wpAnyH_ready (rs := [1]) (by kernel_rfl) (by simp) ?_
  refine AllReadyH.cons (o := _) rfl (fun K hK => ?_) AllReadyH.nil
  go_simp
  (refine (l2Num_any g n c 3 xs _ hHeld.2 (by omega) hl).mono ?_; rw [hn3.out]; rintro e w8 ⟨rfl, rfl⟩; go_wp2_with fail)
  refine hK.out _ _ ?_ (fun hHeld2 => ?_)
  · exact hHeld
  clear hK K hHeld
  have hHeld := hHeld2
  clear hHeld2
  (try simp only [Act.put, aZ, bZ, cZ, dZ, eZ, fZ])
  refine wpAnyH_ready (rs := [3]) (by kernel_rfl) (by simp) ?_
  refine AllReadyH.cons (o := _) rfl (fun K hK => ?_) AllReadyH.nil
  go_simp
  (refine (l2Num_any g n c 4 xs _ hHeld.2 (by omega) hl).mono ?_; rw [hn4.out]; rintro e w8 ⟨rfl, rfl⟩; go_wp2_with fail)
  refine hK.out _ _ ?_ (fun hHeld2 => ?_)
  · exact hHeld
  clear hK K hHeld
  have hHeld := hHeld2
  clear hHeld2
  (try simp only [Act.put, aZ, bZ, cZ, dZ, eZ, fZ])
  refine wpAnyH_take (i := 7) (v := ?_) rfl (by kernel_rfl) (by kernel_rfl) (by kernel_rfl) (fun _ _ _ h => h) (Or.inl ⟨by rfl, ?_⟩) hHeld ?_
  rotate_left
  · (intro w hSw; (try dsimp only at hSw); go_simp; try (with_reducible rfl))
  (try simp only [Act.put, aZ, bZ, cZ, dZ, eZ, fZ])
  refine wpAnyH_take (i := 8) (v := ?_) rfl (by kernel_rfl) (by kernel_rfl) (by kernel_rfl) (fun _ _ _ h => h) (Or.inl ⟨by rfl, ?_⟩) hHeld ?_
  rotate_left
  · (intro w hSw; (try dsimp only at hSw); go_simp; try (with_reducible rfl))
  (try simp only [Act.put, aZ, bZ, cZ, dZ, eZ, fZ])
  refine wpAnyH_ready (rs := [9]) (by kernel_rfl) (by simp) ?_
  refine AllReadyH.cons (o := _) rfl (fun K hK => ?_) AllReadyH.nil
  go_simp
  skip
  refine hK.out _ _ ?_ (fun hHeld2 => ?_)
  · exact ⟨(World.cell?_setCell_other _ _ _ _ (by simp)).trans ((World.cell?_setCell_other _ _ _ _ (by simp)).trans ((World.cell?_setCell_other _ _ _ _ (by simp)).trans hHeld.1)), ((hHeld.2.setO hgp).setO hgp).setO hgp⟩
  clear hK K hHeld
  have hHeld := hHeld2
  clear hHeld2
  (try simp only [Act.put, aZ, bZ, cZ, dZ, eZ, fZ])
  refine wpAnyH_done (by kernel_rfl) ?_ _
  have rp5 : RowAt (((W3.setCell ⟨p, 2, none⟩ (.int .i64 n3)).setCell ⟨p, 3, none⟩ (.int .i64 n4)).setCell ⟨p, 4, none⟩ (.int .i64 n1)).drew p 13 (uq ⟨n1, n2, n3, n4, n1, 0, n5, 0, 0, ⟨#[]⟩, 0, 0, 0⟩) := ((((rp.set (o := 2) (by omega) (.int .i64 n3)).set (o := 3) (by omega) (.int .i64 n4)).set (o := 4) (by omega) (.int .i64 n1)).drew).same (uq_same rfl rfl rfl rfl rfl rfl rfl rfl rfl rfl rfl rfl rfl)
  have wd5 : WdsIn (((W3.setCell ⟨p, 2, none⟩ (.int .i64 n3)).setCell ⟨p, 3, none⟩ (.int .i64 n4)).setCell ⟨p, 4, none⟩ (.int .i64 n1)).drew g n c xs := (((wd3.setO hgp).setO hgp).setO hgp).below (Below.refl _ _).drew
  have hB5 : Below w.heap.size w (((W3.setCell ⟨p, 2, none⟩ (.int .i64 n3)).setCell ⟨p, 3, none⟩ (.int .i64 n4)).setCell ⟨p, 4, none⟩ (.int .i64 n1)).drew := (((hB3.setCell (p := ⟨p, 2, none⟩) hpB _).setCell (p := ⟨p, 3, none⟩) hpB _).setCell (p := ⟨p, 4, none⟩) hpB _).drew
  have rr5 := (((rr3.far (p := ⟨p, 2, none⟩) hpr (.int .i64 n3)).far (p := ⟨p, 3, none⟩) hpr (.int .i64 n4)).far (p := ⟨p, 4, none⟩) hpr (.int .i64 n1)).drew
  generalize (((W3.setCell ⟨p, 2, none⟩ (.int .i64 n3)).setCell ⟨p, 3, none⟩ (.int .i64 n4)).setCell ⟨p, 4, none⟩ (.int .i64 n1)).drew = W5 at rp5 wd5 hB5 hHeld rr5 ⊢
  clear rp wd3 hB3 q0 f2 f3 f4 k2 k3 k4 hpl hHeld
  obtain ⟨x0, hx0⟩ : ∃ x, Hid (xs.getD 0 ByteArray.empty = x) := ⟨_, rfl⟩
  have d0 := wd5.cell 0 (by omega)
  rw [hx0.out] at d0
  have hgl := wd5.lt
  have hpl := rp5.lt
  have z0 : (0 : Int) < (n : Int) := by omega
  obtain ⟨n6, hn6⟩ : ∃ z, Hid (numW xs 6 = z) := ⟨_, rfl⟩
  have f5 := rp5.free (o := 5) (by omega)
  have q5 := rp5.cell (o := 5) (by omega)
  replace e1 := e1.down
  rw [hxs.out, hx0.out] at e1
  replace e2 := e2.down
  rw [hxs.out, hx0.out] at e2
  have rp6 : RowAt (W5.setCell ⟨p, 5, none⟩ (.int .i64 2)) p 13 (uq ⟨n1, n2, n3, n4, n1, 2, n5, 0, 0, ⟨#[]⟩, 0, 0, 0⟩) := (rp5.set (o := 5) (by omega) (.int .i64 2)).same (uq_same rfl rfl rfl rfl rfl rfl rfl rfl rfl rfl rfl rfl rfl)
  have rrW := rr5.far (p := ⟨p, 5, none⟩) hpr (.int .i64 2)
  have hBW := hB5.setCell (p := ⟨p, 5, none⟩) hpB (.int .i64 2)
  go_upto_region 17 with fail
  generalize W5.setCell ⟨p, 5, none⟩ (.int .i64 2) = W6 at rp6 rrW hBW ⊢
  clear q5 f5 d0 rp5 wd5 hB5 rr5
  have HG : Hid (guU xs = ⟨n1, n2, n3, n4, n1, 2, n5, 0, 0, ⟨#[]⟩, 0, 0, 0⟩) := (by unfold guU; rw [hx0.out, if_neg (show ¬ x0.data.toList = M1.wSpan from fun h => e1 (tl_iff.2 h)), if_pos (show x0.data.toList = M1.wKeep from tl_iff.1 e2), hn1.out, hn2.out, hn3.out, hn4.out, hn5.out]; rfl : _ = _)
  have HGS : Hid (guU (wB s.data.toList) = ⟨n1, n2, n3, n4, n1, 2, n5, 0, 0, ⟨#[]⟩, 0, 0, 0⟩) := (by rw [hxs.out]; exact HG.out : _ = _)
  obtain ⟨x, hx⟩ : ∃ x, Hid (M1.utx ⟨n1, n2, n3, n4, n1, 2, n5, 0, 0, ⟨#[]⟩, 0, 0, 0⟩ = x) := ⟨_, rfl⟩
  obtain ⟨c0, c1, c2, c3, c4, c5, c6, c7, c8, c9, c10, c11, c12⟩ := uq_cells rp6
  have cl := (rp6).lt
  go_wp2_with fail
  refine (updateText_spec ⟨n1, n2, n3, n4, n1, 2, n5, 0, 0, ⟨#[]⟩, 0, 0, 0⟩ _ (by show (⟨#[]⟩ : ByteArray).size ≤ maxLen; unfold maxLen; decide)).mono ?_
  rw [hx.out]
  rintro e w9 ⟨rfl, hb9⟩
  have rp9 := (rp6).below hb9
  have rr9 := rrW.below hb9
  have hB9 := hBW.trans (hb9.mono hBW.size)
  clear c0 c1 c2 c3 c4 c5 c6 c7 c8 c9 c10 c11 c12 cl
  obtain ⟨c0, c1, c2, c3, c4, c5, c6, c7, c8, c9, c10, c11, c12⟩ := uq_cells rp9
  obtain ⟨r0, r1, r2, r3, r4, r5, r6, r7, r8, r9, r10, r11, r12⟩ := uq_cells rr9
  obtain ⟨y0, y1, y2, y3, y4, y5, y6, y7, y8, y9, y10, y11, y12⟩ := uq_free rr9
  have cl := rp9.lt
  have rl := rr9.lt
  go_wp2_with fail
  · rename_i h1 h2
    have HR : Hid (RdW s.data.toList = .tuple #[.agg #[.int .i64 0, .int .i64 0, .int .i64 0, .int .i64 0, .int .i64 0, .int .i64 0, .int .i64 0, .int .i64 0, .int .i64 0, .string ByteArray.empty, .int .i64 0, .int .i64 0, .int .i64 0], .bool false]) := rd_no2 h2
    have rr10 : RowAt (((((((((((((w9.setCell ⟨w.heap.size, 0, none⟩ (.int .i64 0)).setCell ⟨w.heap.size, 1, none⟩ (.int .i64 0)).setCell ⟨w.heap.size, 2, none⟩ (.int .i64 0)).setCell ⟨w.heap.size, 3, none⟩ (.int .i64 0)).setCell ⟨w.heap.size, 4, none⟩ (.int .i64 0)).setCell ⟨w.heap.size, 5, none⟩ (.int .i64 0)).setCell ⟨w.heap.size, 6, none⟩ (.int .i64 0)).setCell ⟨w.heap.size, 7, none⟩ (.int .i64 0)).setCell ⟨w.heap.size, 8, none⟩ (.int .i64 0)).setCell ⟨w.heap.size, 9, none⟩ (.string ⟨#[]⟩)).setCell ⟨w.heap.size, 10, none⟩ (.int .i64 0)).setCell ⟨w.heap.size, 11, none⟩ (.int .i64 0)).setCell ⟨w.heap.size, 12, none⟩ (.int .i64 0)) w.heap.size 13 (uq M1.zeroU) := uq_put rr9 M1.zeroU
    have hB10 : Below w.heap.size w (((((((((((((w9.setCell ⟨w.heap.size, 0, none⟩ (.int .i64 0)).setCell ⟨w.heap.size, 1, none⟩ (.int .i64 0)).setCell ⟨w.heap.size, 2, none⟩ (.int .i64 0)).setCell ⟨w.heap.size, 3, none⟩ (.int .i64 0)).setCell ⟨w.heap.size, 4, none⟩ (.int .i64 0)).setCell ⟨w.heap.size, 5, none⟩ (.int .i64 0)).setCell ⟨w.heap.size, 6, none⟩ (.int .i64 0)).setCell ⟨w.heap.size, 7, none⟩ (.int .i64 0)).setCell ⟨w.heap.size, 8, none⟩ (.int .i64 0)).setCell ⟨w.heap.size, 9, none⟩ (.string ⟨#[]⟩)).setCell ⟨w.heap.size, 10, none⟩ (.int .i64 0)).setCell ⟨w.heap.size, 11, none⟩ (.int .i64 0)).setCell ⟨w.heap.size, 12, none⟩ (.int .i64 0)) := bel_put hB9 (Nat.le_refl _) M1.zeroU
    clear c0 c1 c2 c3 c4 c5 c6 c7 c8 c9 c10 c11 c12 r0 r1 r2 r3 r4 r5 r6 r7 r8 r9 r10 r11 r12 y0 y1 y2 y3 y4 y5 y6 y7 y8 y9 y10 y11 y12 rp9 rr9
    obtain ⟨W10, hW10⟩ : ∃ W, (((((((((((((w9.setCell ⟨w.heap.size, 0, none⟩ (.int .i64 0)).setCell ⟨w.heap.size, 1, none⟩ (.int .i64 0)).setCell ⟨w.heap.size, 2, none⟩ (.int .i64 0)).setCell ⟨w.heap.size, 3, none⟩ (.int .i64 0)).setCell ⟨w.heap.size, 4, none⟩ (.int .i64 0)).setCell ⟨w.heap.size, 5, none⟩ (.int .i64 0)).setCell ⟨w.heap.size, 6, none⟩ (.int .i64 0)).setCell ⟨w.heap.size, 7, none⟩ (.int .i64 0)).setCell ⟨w.heap.size, 8, none⟩ (.int .i64 0)).setCell ⟨w.heap.size, 9, none⟩ (.string ⟨#[]⟩)).setCell ⟨w.heap.size, 10, none⟩ (.int .i64 0)).setCell ⟨w.heap.size, 11, none⟩ (.int .i64 0)).setCell ⟨w.heap.size, 12, none⟩ (.int .i64 0)) = W := ⟨_, rfl⟩
    rw [hW10] at rr10 hB10 ⊢
    clear hW10
    obtain ⟨v0, v1, v2, v3, v4, v5, v6, v7, v8, v9, v10, v11, v12⟩ := uq_cells rr10
    unfold M1.zeroU at v0 v1 v2 v3 v4 v5 v6 v7 v8 v9 v10 v11 v12
    refine bodyPost_ret (v := .tuple #[.agg #[.int .i64 0, .int .i64 0, .int .i64 0, .int .i64 0, .int .i64 0, .int .i64 0, .int .i64 0, .int .i64 0, .int .i64 0, .string ByteArray.empty, .int .i64 0, .int .i64 0, .int .i64 0], .bool false]) (by simp [results, Tryz.results35, go_sem, v0, v1, v2, v3, v4, v5, v6, v7, v8, v9, v10, v11, v12]) rfl ?_
    exact ⟨by rw [HR.out], hB10⟩
  · rename_i h1 h2
    have HR : Hid (RdW s.data.toList = .tuple #[.agg #[.int .i64 n1, .int .i64 n2, .int .i64 n3, .int .i64 n4, .int .i64 n1, .int .i64 2, .int .i64 n5, .int .i64 0, .int .i64 0, .string ⟨#[]⟩, .int .i64 0, .int .i64 0, .int .i64 0], .bool true]) := rd_yes HGS.out hx.out h1 h2
    have rr10 : RowAt (((((((((((((w9.setCell ⟨w.heap.size, 0, none⟩ (.int .i64 n1)).setCell ⟨w.heap.size, 1, none⟩ (.int .i64 n2)).setCell ⟨w.heap.size, 2, none⟩ (.int .i64 n3)).setCell ⟨w.heap.size, 3, none⟩ (.int .i64 n4)).setCell ⟨w.heap.size, 4, none⟩ (.int .i64 n1)).setCell ⟨w.heap.size, 5, none⟩ (.int .i64 2)).setCell ⟨w.heap.size, 6, none⟩ (.int .i64 n5)).setCell ⟨w.heap.size, 7, none⟩ (.int .i64 0)).setCell ⟨w.heap.size, 8, none⟩ (.int .i64 0)).setCell ⟨w.heap.size, 9, none⟩ (.string ⟨#[]⟩)).setCell ⟨w.heap.size, 10, none⟩ (.int .i64 0)).setCell ⟨w.heap.size, 11, none⟩ (.int .i64 0)).setCell ⟨w.heap.size, 12, none⟩ (.int .i64 0)) w.heap.size 13 (uq ⟨n1, n2, n3, n4, n1, 2, n5, 0, 0, ⟨#[]⟩, 0, 0, 0⟩) := uq_put rr9 ⟨n1, n2, n3, n4, n1, 2, n5, 0, 0, ⟨#[]⟩, 0, 0, 0⟩
    have hB10 : Below w.heap.size w (((((((((((((w9.setCell ⟨w.heap.size, 0, none⟩ (.int .i64 n1)).setCell ⟨w.heap.size, 1, none⟩ (.int .i64 n2)).setCell ⟨w.heap.size, 2, none⟩ (.int .i64 n3)).setCell ⟨w.heap.size, 3, none⟩ (.int .i64 n4)).setCell ⟨w.heap.size, 4, none⟩ (.int .i64 n1)).setCell ⟨w.heap.size, 5, none⟩ (.int .i64 2)).setCell ⟨w.heap.size, 6, none⟩ (.int .i64 n5)).setCell ⟨w.heap.size, 7, none⟩ (.int .i64 0)).setCell ⟨w.heap.size, 8, none⟩ (.int .i64 0)).setCell ⟨w.heap.size, 9, none⟩ (.string ⟨#[]⟩)).setCell ⟨w.heap.size, 10, none⟩ (.int .i64 0)).setCell ⟨w.heap.size, 11, none⟩ (.int .i64 0)).setCell ⟨w.heap.size, 12, none⟩ (.int .i64 0)) := bel_put hB9 (Nat.le_refl _) ⟨n1, n2, n3, n4, n1, 2, n5, 0, 0, ⟨#[]⟩, 0, 0, 0⟩
    clear c0 c1 c2 c3 c4 c5 c6 c7 c8 c9 c10 c11 c12 r0 r1 r2 r3 r4 r5 r6 r7 r8 r9 r10 r11 r12 y0 y1 y2 y3 y4 y5 y6 y7 y8 y9 y10 y11 y12 rp9 rr9
    obtain ⟨W10, hW10⟩ : ∃ W, (((((((((((((w9.setCell ⟨w.heap.size, 0, none⟩ (.int .i64 n1)).setCell ⟨w.heap.size, 1, none⟩ (.int .i64 n2)).setCell ⟨w.heap.size, 2, none⟩ (.int .i64 n3)).setCell ⟨w.heap.size, 3, none⟩ (.int .i64 n4)).setCell ⟨w.heap.size, 4, none⟩ (.int .i64 n1)).setCell ⟨w.heap.size, 5, none⟩ (.int .i64 2)).setCell ⟨w.heap.size, 6, none⟩ (.int .i64 n5)).setCell ⟨w.heap.size, 7, none⟩ (.int .i64 0)).setCell ⟨w.heap.size, 8, none⟩ (.int .i64 0)).setCell ⟨w.heap.size, 9, none⟩ (.string ⟨#[]⟩)).setCell ⟨w.heap.size, 10, none⟩ (.int .i64 0)).setCell ⟨w.heap.size, 11, none⟩ (.int .i64 0)).setCell ⟨w.heap.size, 12, none⟩ (.int .i64 0)) = W := ⟨_, rfl⟩
    rw [hW10] at rr10 hB10 ⊢
    clear hW10
    obtain ⟨v0, v1, v2, v3, v4, v5, v6, v7, v8, v9, v10, v11, v12⟩ := uq_cells rr10
    refine bodyPost_ret (v := .tuple #[.agg #[.int .i64 n1, .int .i64 n2, .int .i64 n3, .int .i64 n4, .int .i64 n1, .int .i64 2, .int .i64 n5, .int .i64 0, .int .i64 0, .string ⟨#[]⟩, .int .i64 0, .int .i64 0, .int .i64 0], .bool true]) (by simp [results, Tryz.results35, go_sem, v0, v1, v2, v3, v4, v5, v6, v7, v8, v9, v10, v11, v12]) rfl ?_
    exact ⟨by rw [HR.out], hB10⟩
  · rename_i h1
    have HR : Hid (RdW s.data.toList = .tuple #[.agg #[.int .i64 0, .int .i64 0, .int .i64 0, .int .i64 0, .int .i64 0, .int .i64 0, .int .i64 0, .int .i64 0, .int .i64 0, .string ByteArray.empty, .int .i64 0, .int .i64 0, .int .i64 0], .bool false]) := rd_no1 HGS.out hx.out h1
    have rr10 : RowAt (((((((((((((w9.setCell ⟨w.heap.size, 0, none⟩ (.int .i64 0)).setCell ⟨w.heap.size, 1, none⟩ (.int .i64 0)).setCell ⟨w.heap.size, 2, none⟩ (.int .i64 0)).setCell ⟨w.heap.size, 3, none⟩ (.int .i64 0)).setCell ⟨w.heap.size, 4, none⟩ (.int .i64 0)).setCell ⟨w.heap.size, 5, none⟩ (.int .i64 0)).setCell ⟨w.heap.size, 6, none⟩ (.int .i64 0)).setCell ⟨w.heap.size, 7, none⟩ (.int .i64 0)).setCell ⟨w.heap.size, 8, none⟩ (.int .i64 0)).setCell ⟨w.heap.size, 9, none⟩ (.string ⟨#[]⟩)).setCell ⟨w.heap.size, 10, none⟩ (.int .i64 0)).setCell ⟨w.heap.size, 11, none⟩ (.int .i64 0)).setCell ⟨w.heap.size, 12, none⟩ (.int .i64 0)) w.heap.size 13 (uq M1.zeroU) := uq_put rr9 M1.zeroU
    have hB10 : Below w.heap.size w (((((((((((((w9.setCell ⟨w.heap.size, 0, none⟩ (.int .i64 0)).setCell ⟨w.heap.size, 1, none⟩ (.int .i64 0)).setCell ⟨w.heap.size, 2, none⟩ (.int .i64 0)).setCell ⟨w.heap.size, 3, none⟩ (.int .i64 0)).setCell ⟨w.heap.size, 4, none⟩ (.int .i64 0)).setCell ⟨w.heap.size, 5, none⟩ (.int .i64 0)).setCell ⟨w.heap.size, 6, none⟩ (.int .i64 0)).setCell ⟨w.heap.size, 7, none⟩ (.int .i64 0)).setCell ⟨w.heap.size, 8, none⟩ (.int .i64 0)).setCell ⟨w.heap.size, 9, none⟩ (.string ⟨#[]⟩)).setCell ⟨w.heap.size, 10, none⟩ (.int .i64 0)).setCell ⟨w.heap.size, 11, none⟩ (.int .i64 0)).setCell ⟨w.heap.size, 12, none⟩ (.int .i64 0)) := bel_put hB9 (Nat.le_refl _) M1.zeroU
    clear c0 c1 c2 c3 c4 c5 c6 c7 c8 c9 c10 c11 c12 r0 r1 r2 r3 r4 r5 r6 r7 r8 r9 r10 r11 r12 y0 y1 y2 y3 y4 y5 y6 y7 y8 y9 y10 y11 y12 rp9 rr9
    obtain ⟨W10, hW10⟩ : ∃ W, (((((((((((((w9.setCell ⟨w.heap.size, 0, none⟩ (.int .i64 0)).setCell ⟨w.heap.size, 1, none⟩ (.int .i64 0)).setCell ⟨w.heap.size, 2, none⟩ (.int .i64 0)).setCell ⟨w.heap.size, 3, none⟩ (.int .i64 0)).setCell ⟨w.heap.size, 4, none⟩ (.int .i64 0)).setCell ⟨w.heap.size, 5, none⟩ (.int .i64 0)).setCell ⟨w.heap.size, 6, none⟩ (.int .i64 0)).setCell ⟨w.heap.size, 7, none⟩ (.int .i64 0)).setCell ⟨w.heap.size, 8, none⟩ (.int .i64 0)).setCell ⟨w.heap.size, 9, none⟩ (.string ⟨#[]⟩)).setCell ⟨w.heap.size, 10, none⟩ (.int .i64 0)).setCell ⟨w.heap.size, 11, none⟩ (.int .i64 0)).setCell ⟨w.heap.size, 12, none⟩ (.int .i64 0)) = W := ⟨_, rfl⟩
    rw [hW10] at rr10 hB10 ⊢
    clear hW10
    obtain ⟨v0, v1, v2, v3, v4, v5, v6, v7, v8, v9, v10, v11, v12⟩ := uq_cells rr10
    unfold M1.zeroU at v0 v1 v2 v3 v4 v5 v6 v7 v8 v9 v10 v11 v12
    refine bodyPost_ret (v := .tuple #[.agg #[.int .i64 0, .int .i64 0, .int .i64 0, .int .i64 0, .int .i64 0, .int .i64 0, .int .i64 0, .int .i64 0, .int .i64 0, .string ByteArray.empty, .int .i64 0, .int .i64 0, .int .i64 0], .bool false]) (by simp [results, Tryz.results35, go_sem, v0, v1, v2, v3, v4, v5, v6, v7, v8, v9, v10, v11, v12]) rfl ?_
    exact ⟨by rw [HR.out], hB10⟩

set_option maxHeartbeats 8000000 in
set_option maxRecDepth 100000 in
theorem ru_life (s : ByteArray) (w : World) (hs : s.size ≤ maxLen) (hs3 : s.size ≤ 200) (e1 : ¬ (((wB s.data.toList).getD 0 ByteArray.empty).toList == [115, 112, 97, 110]) = true) (e2 : ¬ (((wB s.data.toList).getD 0 ByteArray.empty).toList == [107, 101, 101, 112]) = true) (e3 : (((wB s.data.toList).getD 0 ByteArray.empty).toList == [108, 105, 102, 101]) = true) :
    Calls Tryz.prog 35 #[.string s] w fun e w' => e = .returned (RdW s.data.toList) ∧ Below w.heap.size w w' := by
  have hs2 := hs
  unfold maxLen at hs2
  have hA : Below w.heap.size w (w.alloc (.cells #[.int .i64 0, .int .i64 0, .int .i64 0, .int .i64 0, .int .i64 0, .int .i64 0, .int .i64 0, .int .i64 0, .int .i64 0, .string ⟨#[]⟩, .int .i64 0, .int .i64 0, .int .i64 0] 47)) := (Below.refl _ _).alloc (Nat.le_refl _) _
  replace e1 := (⟨e1⟩ : PLift _)
  replace e2 := (⟨e2⟩ : PLift _)
  replace e3 := (⟨e3⟩ : PLift _)
  go_enter Tryz.func35, Tryz.ntmps35
  go_upto_region 3 with fail
  obtain ⟨W0, hW0⟩ : ∃ W, w.alloc (.cells #[.int .i64 0, .int .i64 0, .int .i64 0, .int .i64 0, .int .i64 0, .int .i64 0, .int .i64 0, .int .i64 0, .int .i64 0, .string ⟨#[]⟩, .int .i64 0, .int .i64 0, .int .i64 0] 47) = W := ⟨_, rfl⟩
  have rr0 := uq_new w M1.zeroU 47
  unfold M1.zeroU at rr0
  rw [show (ByteArray.empty) = (⟨#[]⟩ : ByteArray) from rfl] at rr0
  rw [hW0] at hA rr0 ⊢
  clear hW0
  have hr0 := rr0.lt
  go_wp2_with fail
  refine (l2Words_any s _ hs3).mono ?_
  rintro e w1 ⟨⟨g, c, n, rfl, hn, own⟩, hb1⟩
  have hB1 := hA.trans (hb1.mono hA.size)
  have wd := wds_of_owns hn.out own
  have hl : Hid (∀ x ∈ wB s.data.toList, x.size ≤ maxLen) := fun x hx => by have := wB_size hs3 x hx; unfold maxLen; omega
  have hn0 : 1 ≤ n := by rw [← hn.out]; unfold wB; rw [List.length_map]; exact List.length_pos_iff.2 (M1.spl_ne _)
  have hnM : n ≤ 201 := by rw [← hn.out]; have := wB_len s.data.toList; rw [M1.len_list] at this; omega
  obtain ⟨xs, hxs⟩ : ∃ xs, Hid (wB s.data.toList = xs) := ⟨_, rfl⟩
  rw [hxs.out] at wd hl
  clear own
  have c1 := wd.cap
  have c2 := wd.most
  unfold maxLen at c2
  obtain ⟨n1, hn1⟩ : ∃ z, Hid (numW xs 1 = z) := ⟨_, rfl⟩
  obtain ⟨n2, hn2⟩ : ∃ z, Hid (numW xs 2 = z) := ⟨_, rfl⟩
  obtain ⟨n3, hn3⟩ : ∃ z, Hid (numW xs 3 = z) := ⟨_, rfl⟩
  obtain ⟨n4, hn4⟩ : ∃ z, Hid (numW xs 4 = z) := ⟨_, rfl⟩
  obtain ⟨n5, hn5⟩ : ∃ z, Hid (numW xs 5 = z) := ⟨_, rfl⟩
  go_wp2_with fail
  refine (l2Num_any g n c 1 xs _ wd (by omega) hl).mono ?_
  rw [hn1.out]
  rintro e w2 ⟨rfl, rfl⟩
  go_wp2_with fail
  refine (l2Num_any g n c 2 xs _ wd (by omega) hl).mono ?_
  rw [hn2.out]
  rintro e w2 ⟨rfl, rfl⟩
  go_wp2_with fail
  refine (l2Num_any g n c 5 xs _ wd (by omega) hl).mono ?_
  rw [hn5.out]
  rintro e w2 ⟨rfl, rfl⟩
  have hA3 : Below w2.heap.size w2 (w2.alloc (.cells #[.int .i64 n1, .int .i64 n2, .int .i64 0, .int .i64 0, .int .i64 0, .int .i64 0, .int .i64 n5, .int .i64 0, .int .i64 0, .string ⟨#[]⟩, .int .i64 0, .int .i64 0, .int .i64 0] 47)) := (Below.refl _ _).alloc (Nat.le_refl _) _
  have rp := uq_new w2 ⟨n1, n2, 0, 0, 0, 0, n5, 0, 0, ⟨#[]⟩, 0, 0, 0⟩ 47
  go_upto_region 5 with fail
  obtain ⟨W3, hW3⟩ : ∃ W, w2.alloc (.cells #[.int .i64 n1, .int .i64 n2, .int .i64 0, .int .i64 0, .int .i64 0, .int .i64 0, .int .i64 n5, .int .i64 0, .int .i64 0, .string ⟨#[]⟩, .int .i64 0, .int .i64 0, .int .i64 0] 47) = W := ⟨_, rfl⟩
  rw [hW3] at hA3 rp ⊢
  clear hW3
  have wd3 := wd.below hA3
  have rr3 := (rr0.below hb1).below hA3
  have hr1 : w.heap.size < w2.heap.size := by have := hb1.size; omega
  have hgp : ¬ w2.heap.size = g := by have := wd.lt; omega
  have hB3 := hB1.trans (hA3.mono hB1.size)
  obtain ⟨p, hp⟩ : ∃ p, Hid (w2.heap.size = p) := ⟨_, rfl⟩
  have hpr : ¬ p = w.heap.size := by have := hp.out; omega
  have hpB : w.heap.size ≤ p := by rw [← hp.out]; exact hB1.size
  rw [hp.out] at rp hgp ⊢
  have q0 : W3.cell? ⟨p, 0, none⟩ = some (.int .i64 n1) := rp.cell (o := 0) (by omega)
  have f2 := rp.free (o := 2) (by omega)
  have f3 := rp.free (o := 3) (by omega)
  have f4 := rp.free (o := 4) (by omega)
  have k2 := rp.cell (o := 2) (by omega)
  have k3 := rp.cell (o := 3) (by omega)
  have k4 := rp.cell (o := 4) (by omega)
  have hpl := rp.lt
  clear hA3 wd
  refine wp_region_held_drew (S := fun w' => w'.cell? ⟨p, 0, none⟩ = some (.int .i64 n1) ∧ WdsIn w' g n c xs) (by kernel_rfl) ?_ (fun hHeld => ?_)
  · exact ⟨q0, wd3.below (Below.refl _ _).drew⟩
  refine wpAnyH_take (i := 0) (v := ?_) rfl (by kernel_rfl) (by kernel_rfl) (by kernel_rfl) (fun _ _ _ h => h) (Or.inl ⟨by rfl, ?_⟩) hHeld ?_
  rotate_left
  · (intro w hSw; (try dsimp only at hSw); go_simp; try (with_reducible rfl))
  (try simp only [Act.put, aZ, bZ, cZ, dZ, eZ, fZ])
  refine wpAnyH_take (i := 2) (v := ?_) rfl (by kernel_rfl) (by kernel_rfl) (by kernel_rfl) (fun _ _ _ h => h) (Or.inl ⟨by rfl, ?_⟩) hHeld ?_
  rotate_left
  · (intro w hSw; (try dsimp only at hSw); go_simp; try (with_reducible rfl))
  (try simp only [Act.put, aZ, bZ, cZ, dZ, eZ, fZ])
  refine wpAnyH_take (i := 4) (v := ?_) rfl (by kernel_rfl) (by kernel_rfl) (by kernel_rfl) (fun _ _ _ h => h) (Or.inl ⟨by rfl, ?_⟩) hHeld ?_
  rotate_left
  · (intro w hSw; (try dsimp only at hSw); go_simp; try (with_reducible rfl))
  (try simp only [Act.put, aZ, bZ, cZ, dZ, eZ, fZ])
  refine wpAnyH_take (i := 5) (v := ?_) rfl (by kernel_rfl) (by kernel_rfl) (by kernel_rfl) (fun _ _ _ h => h) (Or.inl ⟨by rfl, ?_⟩) hHeld ?_
  rotate_left
  · (intro w hSw; (try dsimp only at hSw); go_simp; try (with_reducible rfl))
  (try simp only [Act.put, aZ, bZ, cZ, dZ, eZ, fZ])
  refine wpAnyH_take (i := 6) (v := .int .i64 n1) rfl (by kernel_rfl) (by kernel_rfl) (by kernel_rfl) (fun _ _ _ h => h) (Or.inl ⟨by rfl, ?_⟩) hHeld ?_
  · (intro w hSw; (try dsimp only at hSw); go_simp; (try rw [hSw.1]))
  (try simp only [Act.put, aZ, bZ, cZ, dZ, eZ, fZ])
  refine wpAnyH_ready (rs := [1]) (by kernel_rfl) (by simp) ?_
  refine AllReadyH.cons (o := _) rfl (fun K hK => ?_) AllReadyH.nil
  go_simp
  (refine (l2Num_any g n c 3 xs _ hHeld.2 (by omega) hl).mono ?_; rw [hn3.out]; rintro e w8 ⟨rfl, rfl⟩; go_wp2_with fail)
  refine hK.out _ _ ?_ (fun hHeld2 => ?_)
  · exact hHeld
  clear hK K hHeld
  have hHeld := hHeld2
  clear hHeld2
  (try simp only [Act.put, aZ, bZ, cZ, dZ, eZ, fZ])
  refine wpAnyH_ready (rs := [3]) (by kernel_rfl) (by simp) ?_
  refine AllReadyH.cons (o := _) rfl (fun K hK => ?_) AllReadyH.nil
  go_simp
  (refine (l2Num_any g n c 4 xs _ hHeld.2 (by omega) hl).mono ?_; rw [hn4.out]; rintro e w8 ⟨rfl, rfl⟩; go_wp2_with fail)
  refine hK.out _ _ ?_ (fun hHeld2 => ?_)
  · exact hHeld
  clear hK K hHeld
  have hHeld := hHeld2
  clear hHeld2
  (try simp only [Act.put, aZ, bZ, cZ, dZ, eZ, fZ])
  refine wpAnyH_take (i := 7) (v := ?_) rfl (by kernel_rfl) (by kernel_rfl) (by kernel_rfl) (fun _ _ _ h => h) (Or.inl ⟨by rfl, ?_⟩) hHeld ?_
  rotate_left
  · (intro w hSw; (try dsimp only at hSw); go_simp; try (with_reducible rfl))
  (try simp only [Act.put, aZ, bZ, cZ, dZ, eZ, fZ])
  refine wpAnyH_take (i := 8) (v := ?_) rfl (by kernel_rfl) (by kernel_rfl) (by kernel_rfl) (fun _ _ _ h => h) (Or.inl ⟨by rfl, ?_⟩) hHeld ?_
  rotate_left
  · (intro w hSw; (try dsimp only at hSw); go_simp; try (with_reducible rfl))
  (try simp only [Act.put, aZ, bZ, cZ, dZ, eZ, fZ])
  refine wpAnyH_ready (rs := [9]) (by kernel_rfl) (by simp) ?_
  refine AllReadyH.cons (o := _) rfl (fun K hK => ?_) AllReadyH.nil
  go_simp
  skip
  refine hK.out _ _ ?_ (fun hHeld2 => ?_)
  · exact ⟨(World.cell?_setCell_other _ _ _ _ (by simp)).trans ((World.cell?_setCell_other _ _ _ _ (by simp)).trans ((World.cell?_setCell_other _ _ _ _ (by simp)).trans hHeld.1)), ((hHeld.2.setO hgp).setO hgp).setO hgp⟩
  clear hK K hHeld
  have hHeld := hHeld2
  clear hHeld2
  (try simp only [Act.put, aZ, bZ, cZ, dZ, eZ, fZ])
  refine wpAnyH_done (by kernel_rfl) ?_ _
  have rp5 : RowAt (((W3.setCell ⟨p, 2, none⟩ (.int .i64 n3)).setCell ⟨p, 3, none⟩ (.int .i64 n4)).setCell ⟨p, 4, none⟩ (.int .i64 n1)).drew p 13 (uq ⟨n1, n2, n3, n4, n1, 0, n5, 0, 0, ⟨#[]⟩, 0, 0, 0⟩) := ((((rp.set (o := 2) (by omega) (.int .i64 n3)).set (o := 3) (by omega) (.int .i64 n4)).set (o := 4) (by omega) (.int .i64 n1)).drew).same (uq_same rfl rfl rfl rfl rfl rfl rfl rfl rfl rfl rfl rfl rfl)
  have wd5 : WdsIn (((W3.setCell ⟨p, 2, none⟩ (.int .i64 n3)).setCell ⟨p, 3, none⟩ (.int .i64 n4)).setCell ⟨p, 4, none⟩ (.int .i64 n1)).drew g n c xs := (((wd3.setO hgp).setO hgp).setO hgp).below (Below.refl _ _).drew
  have hB5 : Below w.heap.size w (((W3.setCell ⟨p, 2, none⟩ (.int .i64 n3)).setCell ⟨p, 3, none⟩ (.int .i64 n4)).setCell ⟨p, 4, none⟩ (.int .i64 n1)).drew := (((hB3.setCell (p := ⟨p, 2, none⟩) hpB _).setCell (p := ⟨p, 3, none⟩) hpB _).setCell (p := ⟨p, 4, none⟩) hpB _).drew
  have rr5 := (((rr3.far (p := ⟨p, 2, none⟩) hpr (.int .i64 n3)).far (p := ⟨p, 3, none⟩) hpr (.int .i64 n4)).far (p := ⟨p, 4, none⟩) hpr (.int .i64 n1)).drew
  generalize (((W3.setCell ⟨p, 2, none⟩ (.int .i64 n3)).setCell ⟨p, 3, none⟩ (.int .i64 n4)).setCell ⟨p, 4, none⟩ (.int .i64 n1)).drew = W5 at rp5 wd5 hB5 hHeld rr5 ⊢
  clear rp wd3 hB3 q0 f2 f3 f4 k2 k3 k4 hpl hHeld
  obtain ⟨x0, hx0⟩ : ∃ x, Hid (xs.getD 0 ByteArray.empty = x) := ⟨_, rfl⟩
  have d0 := wd5.cell 0 (by omega)
  rw [hx0.out] at d0
  have hgl := wd5.lt
  have hpl := rp5.lt
  have z0 : (0 : Int) < (n : Int) := by omega
  obtain ⟨n6, hn6⟩ : ∃ z, Hid (numW xs 6 = z) := ⟨_, rfl⟩
  have f5 := rp5.free (o := 5) (by omega)
  have q5 := rp5.cell (o := 5) (by omega)
  replace e1 := e1.down
  rw [hxs.out, hx0.out] at e1
  replace e2 := e2.down
  rw [hxs.out, hx0.out] at e2
  replace e3 := e3.down
  rw [hxs.out, hx0.out] at e3
  have rp6 : RowAt (W5.setCell ⟨p, 5, none⟩ (.int .i64 3)) p 13 (uq ⟨n1, n2, n3, n4, n1, 3, n5, 0, 0, ⟨#[]⟩, 0, 0, 0⟩) := (rp5.set (o := 5) (by omega) (.int .i64 3)).same (uq_same rfl rfl rfl rfl rfl rfl rfl rfl rfl rfl rfl rfl rfl)
  have rr6 := rr5.far (p := ⟨p, 5, none⟩) hpr (.int .i64 3)
  have hB6 := hB5.setCell (p := ⟨p, 5, none⟩) hpB (.int .i64 3)
  have wd6 := wd5.setO hgp (o := 5) (v := .int .i64 3)
  go_upto_region 16 with fail
  generalize W5.setCell ⟨p, 5, none⟩ (.int .i64 3) = W6 at rp6 rr6 hB6 wd6 ⊢
  clear q5 f5 d0 rp5 wd5 hB5 rr5
  go_wp2_with fail
  refine (l2Num_any g n c 6 xs _ wd6 (by omega) hl).mono ?_
  rw [hn6.out]
  rintro e wx ⟨rfl, rfl⟩
  have q12 := rp6.cell (o := 12) (by omega)
  have f12 := rp6.free (o := 12) (by omega)
  have hp6 := rp6.lt
  have rp7 : RowAt (wx.setCell ⟨p, 12, none⟩ (.int .i64 n6)) p 13 (uq ⟨n1, n2, n3, n4, n1, 3, n5, 0, 0, ⟨#[]⟩, 0, 0, n6⟩) := (rp6.set (o := 12) (by omega) (.int .i64 n6)).same (uq_same rfl rfl rfl rfl rfl rfl rfl rfl rfl rfl rfl rfl rfl)
  have rrW := rr6.far (p := ⟨p, 12, none⟩) hpr (.int .i64 n6)
  have hBW := hB6.setCell (p := ⟨p, 12, none⟩) hpB (.int .i64 n6)
  go_upto_region 17 with fail
  generalize wx.setCell ⟨p, 12, none⟩ (.int .i64 n6) = W7 at rp7 rrW hBW ⊢
  clear q12 f12 rp6 wd6 hB6 rr6
  have HG : Hid (guU xs = ⟨n1, n2, n3, n4, n1, 3, n5, 0, 0, ⟨#[]⟩, 0, 0, n6⟩) := (by unfold guU; rw [hx0.out, if_neg (show ¬ x0.data.toList = M1.wSpan from fun h => e1 (tl_iff.2 h)), if_neg (show ¬ x0.data.toList = M1.wKeep from fun h => e2 (tl_iff.2 h)), if_pos (show x0.data.toList = M1.wLife from tl_iff.1 e3), hn1.out, hn2.out, hn3.out, hn4.out, hn5.out, hn6.out]; rfl : _ = _)
  have HGS : Hid (guU (wB s.data.toList) = ⟨n1, n2, n3, n4, n1, 3, n5, 0, 0, ⟨#[]⟩, 0, 0, n6⟩) := (by rw [hxs.out]; exact HG.out : _ = _)
  obtain ⟨x, hx⟩ : ∃ x, Hid (M1.utx ⟨n1, n2, n3, n4, n1, 3, n5, 0, 0, ⟨#[]⟩, 0, 0, n6⟩ = x) := ⟨_, rfl⟩
  obtain ⟨c0, c1, c2, c3, c4, c5, c6, c7, c8, c9, c10, c11, c12⟩ := uq_cells rp7
  have cl := (rp7).lt
  go_wp2_with fail
  refine (updateText_spec ⟨n1, n2, n3, n4, n1, 3, n5, 0, 0, ⟨#[]⟩, 0, 0, n6⟩ _ (by show (⟨#[]⟩ : ByteArray).size ≤ maxLen; unfold maxLen; decide)).mono ?_
  rw [hx.out]
  rintro e w9 ⟨rfl, hb9⟩
  have rp9 := (rp7).below hb9
  have rr9 := rrW.below hb9
  have hB9 := hBW.trans (hb9.mono hBW.size)
  clear c0 c1 c2 c3 c4 c5 c6 c7 c8 c9 c10 c11 c12 cl
  obtain ⟨c0, c1, c2, c3, c4, c5, c6, c7, c8, c9, c10, c11, c12⟩ := uq_cells rp9
  obtain ⟨r0, r1, r2, r3, r4, r5, r6, r7, r8, r9, r10, r11, r12⟩ := uq_cells rr9
  obtain ⟨y0, y1, y2, y3, y4, y5, y6, y7, y8, y9, y10, y11, y12⟩ := uq_free rr9
  have cl := rp9.lt
  have rl := rr9.lt
  go_wp2_with fail
  · rename_i h1 h2
    have HR : Hid (RdW s.data.toList = .tuple #[.agg #[.int .i64 0, .int .i64 0, .int .i64 0, .int .i64 0, .int .i64 0, .int .i64 0, .int .i64 0, .int .i64 0, .int .i64 0, .string ByteArray.empty, .int .i64 0, .int .i64 0, .int .i64 0], .bool false]) := rd_no2 h2
    have rr10 : RowAt (((((((((((((w9.setCell ⟨w.heap.size, 0, none⟩ (.int .i64 0)).setCell ⟨w.heap.size, 1, none⟩ (.int .i64 0)).setCell ⟨w.heap.size, 2, none⟩ (.int .i64 0)).setCell ⟨w.heap.size, 3, none⟩ (.int .i64 0)).setCell ⟨w.heap.size, 4, none⟩ (.int .i64 0)).setCell ⟨w.heap.size, 5, none⟩ (.int .i64 0)).setCell ⟨w.heap.size, 6, none⟩ (.int .i64 0)).setCell ⟨w.heap.size, 7, none⟩ (.int .i64 0)).setCell ⟨w.heap.size, 8, none⟩ (.int .i64 0)).setCell ⟨w.heap.size, 9, none⟩ (.string ⟨#[]⟩)).setCell ⟨w.heap.size, 10, none⟩ (.int .i64 0)).setCell ⟨w.heap.size, 11, none⟩ (.int .i64 0)).setCell ⟨w.heap.size, 12, none⟩ (.int .i64 0)) w.heap.size 13 (uq M1.zeroU) := uq_put rr9 M1.zeroU
    have hB10 : Below w.heap.size w (((((((((((((w9.setCell ⟨w.heap.size, 0, none⟩ (.int .i64 0)).setCell ⟨w.heap.size, 1, none⟩ (.int .i64 0)).setCell ⟨w.heap.size, 2, none⟩ (.int .i64 0)).setCell ⟨w.heap.size, 3, none⟩ (.int .i64 0)).setCell ⟨w.heap.size, 4, none⟩ (.int .i64 0)).setCell ⟨w.heap.size, 5, none⟩ (.int .i64 0)).setCell ⟨w.heap.size, 6, none⟩ (.int .i64 0)).setCell ⟨w.heap.size, 7, none⟩ (.int .i64 0)).setCell ⟨w.heap.size, 8, none⟩ (.int .i64 0)).setCell ⟨w.heap.size, 9, none⟩ (.string ⟨#[]⟩)).setCell ⟨w.heap.size, 10, none⟩ (.int .i64 0)).setCell ⟨w.heap.size, 11, none⟩ (.int .i64 0)).setCell ⟨w.heap.size, 12, none⟩ (.int .i64 0)) := bel_put hB9 (Nat.le_refl _) M1.zeroU
    clear c0 c1 c2 c3 c4 c5 c6 c7 c8 c9 c10 c11 c12 r0 r1 r2 r3 r4 r5 r6 r7 r8 r9 r10 r11 r12 y0 y1 y2 y3 y4 y5 y6 y7 y8 y9 y10 y11 y12 rp9 rr9
    obtain ⟨W10, hW10⟩ : ∃ W, (((((((((((((w9.setCell ⟨w.heap.size, 0, none⟩ (.int .i64 0)).setCell ⟨w.heap.size, 1, none⟩ (.int .i64 0)).setCell ⟨w.heap.size, 2, none⟩ (.int .i64 0)).setCell ⟨w.heap.size, 3, none⟩ (.int .i64 0)).setCell ⟨w.heap.size, 4, none⟩ (.int .i64 0)).setCell ⟨w.heap.size, 5, none⟩ (.int .i64 0)).setCell ⟨w.heap.size, 6, none⟩ (.int .i64 0)).setCell ⟨w.heap.size, 7, none⟩ (.int .i64 0)).setCell ⟨w.heap.size, 8, none⟩ (.int .i64 0)).setCell ⟨w.heap.size, 9, none⟩ (.string ⟨#[]⟩)).setCell ⟨w.heap.size, 10, none⟩ (.int .i64 0)).setCell ⟨w.heap.size, 11, none⟩ (.int .i64 0)).setCell ⟨w.heap.size, 12, none⟩ (.int .i64 0)) = W := ⟨_, rfl⟩
    rw [hW10] at rr10 hB10 ⊢
    clear hW10
    obtain ⟨v0, v1, v2, v3, v4, v5, v6, v7, v8, v9, v10, v11, v12⟩ := uq_cells rr10
    unfold M1.zeroU at v0 v1 v2 v3 v4 v5 v6 v7 v8 v9 v10 v11 v12
    refine bodyPost_ret (v := .tuple #[.agg #[.int .i64 0, .int .i64 0, .int .i64 0, .int .i64 0, .int .i64 0, .int .i64 0, .int .i64 0, .int .i64 0, .int .i64 0, .string ByteArray.empty, .int .i64 0, .int .i64 0, .int .i64 0], .bool false]) (by simp [results, Tryz.results35, go_sem, v0, v1, v2, v3, v4, v5, v6, v7, v8, v9, v10, v11, v12]) rfl ?_
    exact ⟨by rw [HR.out], hB10⟩
  · rename_i h1 h2
    have HR : Hid (RdW s.data.toList = .tuple #[.agg #[.int .i64 n1, .int .i64 n2, .int .i64 n3, .int .i64 n4, .int .i64 n1, .int .i64 3, .int .i64 n5, .int .i64 0, .int .i64 0, .string ⟨#[]⟩, .int .i64 0, .int .i64 0, .int .i64 n6], .bool true]) := rd_yes HGS.out hx.out h1 h2
    have rr10 : RowAt (((((((((((((w9.setCell ⟨w.heap.size, 0, none⟩ (.int .i64 n1)).setCell ⟨w.heap.size, 1, none⟩ (.int .i64 n2)).setCell ⟨w.heap.size, 2, none⟩ (.int .i64 n3)).setCell ⟨w.heap.size, 3, none⟩ (.int .i64 n4)).setCell ⟨w.heap.size, 4, none⟩ (.int .i64 n1)).setCell ⟨w.heap.size, 5, none⟩ (.int .i64 3)).setCell ⟨w.heap.size, 6, none⟩ (.int .i64 n5)).setCell ⟨w.heap.size, 7, none⟩ (.int .i64 0)).setCell ⟨w.heap.size, 8, none⟩ (.int .i64 0)).setCell ⟨w.heap.size, 9, none⟩ (.string ⟨#[]⟩)).setCell ⟨w.heap.size, 10, none⟩ (.int .i64 0)).setCell ⟨w.heap.size, 11, none⟩ (.int .i64 0)).setCell ⟨w.heap.size, 12, none⟩ (.int .i64 n6)) w.heap.size 13 (uq ⟨n1, n2, n3, n4, n1, 3, n5, 0, 0, ⟨#[]⟩, 0, 0, n6⟩) := uq_put rr9 ⟨n1, n2, n3, n4, n1, 3, n5, 0, 0, ⟨#[]⟩, 0, 0, n6⟩
    have hB10 : Below w.heap.size w (((((((((((((w9.setCell ⟨w.heap.size, 0, none⟩ (.int .i64 n1)).setCell ⟨w.heap.size, 1, none⟩ (.int .i64 n2)).setCell ⟨w.heap.size, 2, none⟩ (.int .i64 n3)).setCell ⟨w.heap.size, 3, none⟩ (.int .i64 n4)).setCell ⟨w.heap.size, 4, none⟩ (.int .i64 n1)).setCell ⟨w.heap.size, 5, none⟩ (.int .i64 3)).setCell ⟨w.heap.size, 6, none⟩ (.int .i64 n5)).setCell ⟨w.heap.size, 7, none⟩ (.int .i64 0)).setCell ⟨w.heap.size, 8, none⟩ (.int .i64 0)).setCell ⟨w.heap.size, 9, none⟩ (.string ⟨#[]⟩)).setCell ⟨w.heap.size, 10, none⟩ (.int .i64 0)).setCell ⟨w.heap.size, 11, none⟩ (.int .i64 0)).setCell ⟨w.heap.size, 12, none⟩ (.int .i64 n6)) := bel_put hB9 (Nat.le_refl _) ⟨n1, n2, n3, n4, n1, 3, n5, 0, 0, ⟨#[]⟩, 0, 0, n6⟩
    clear c0 c1 c2 c3 c4 c5 c6 c7 c8 c9 c10 c11 c12 r0 r1 r2 r3 r4 r5 r6 r7 r8 r9 r10 r11 r12 y0 y1 y2 y3 y4 y5 y6 y7 y8 y9 y10 y11 y12 rp9 rr9
    obtain ⟨W10, hW10⟩ : ∃ W, (((((((((((((w9.setCell ⟨w.heap.size, 0, none⟩ (.int .i64 n1)).setCell ⟨w.heap.size, 1, none⟩ (.int .i64 n2)).setCell ⟨w.heap.size, 2, none⟩ (.int .i64 n3)).setCell ⟨w.heap.size, 3, none⟩ (.int .i64 n4)).setCell ⟨w.heap.size, 4, none⟩ (.int .i64 n1)).setCell ⟨w.heap.size, 5, none⟩ (.int .i64 3)).setCell ⟨w.heap.size, 6, none⟩ (.int .i64 n5)).setCell ⟨w.heap.size, 7, none⟩ (.int .i64 0)).setCell ⟨w.heap.size, 8, none⟩ (.int .i64 0)).setCell ⟨w.heap.size, 9, none⟩ (.string ⟨#[]⟩)).setCell ⟨w.heap.size, 10, none⟩ (.int .i64 0)).setCell ⟨w.heap.size, 11, none⟩ (.int .i64 0)).setCell ⟨w.heap.size, 12, none⟩ (.int .i64 n6)) = W := ⟨_, rfl⟩
    rw [hW10] at rr10 hB10 ⊢
    clear hW10
    obtain ⟨v0, v1, v2, v3, v4, v5, v6, v7, v8, v9, v10, v11, v12⟩ := uq_cells rr10
    refine bodyPost_ret (v := .tuple #[.agg #[.int .i64 n1, .int .i64 n2, .int .i64 n3, .int .i64 n4, .int .i64 n1, .int .i64 3, .int .i64 n5, .int .i64 0, .int .i64 0, .string ⟨#[]⟩, .int .i64 0, .int .i64 0, .int .i64 n6], .bool true]) (by simp [results, Tryz.results35, go_sem, v0, v1, v2, v3, v4, v5, v6, v7, v8, v9, v10, v11, v12]) rfl ?_
    exact ⟨by rw [HR.out], hB10⟩
  · rename_i h1
    have HR : Hid (RdW s.data.toList = .tuple #[.agg #[.int .i64 0, .int .i64 0, .int .i64 0, .int .i64 0, .int .i64 0, .int .i64 0, .int .i64 0, .int .i64 0, .int .i64 0, .string ByteArray.empty, .int .i64 0, .int .i64 0, .int .i64 0], .bool false]) := rd_no1 HGS.out hx.out h1
    have rr10 : RowAt (((((((((((((w9.setCell ⟨w.heap.size, 0, none⟩ (.int .i64 0)).setCell ⟨w.heap.size, 1, none⟩ (.int .i64 0)).setCell ⟨w.heap.size, 2, none⟩ (.int .i64 0)).setCell ⟨w.heap.size, 3, none⟩ (.int .i64 0)).setCell ⟨w.heap.size, 4, none⟩ (.int .i64 0)).setCell ⟨w.heap.size, 5, none⟩ (.int .i64 0)).setCell ⟨w.heap.size, 6, none⟩ (.int .i64 0)).setCell ⟨w.heap.size, 7, none⟩ (.int .i64 0)).setCell ⟨w.heap.size, 8, none⟩ (.int .i64 0)).setCell ⟨w.heap.size, 9, none⟩ (.string ⟨#[]⟩)).setCell ⟨w.heap.size, 10, none⟩ (.int .i64 0)).setCell ⟨w.heap.size, 11, none⟩ (.int .i64 0)).setCell ⟨w.heap.size, 12, none⟩ (.int .i64 0)) w.heap.size 13 (uq M1.zeroU) := uq_put rr9 M1.zeroU
    have hB10 : Below w.heap.size w (((((((((((((w9.setCell ⟨w.heap.size, 0, none⟩ (.int .i64 0)).setCell ⟨w.heap.size, 1, none⟩ (.int .i64 0)).setCell ⟨w.heap.size, 2, none⟩ (.int .i64 0)).setCell ⟨w.heap.size, 3, none⟩ (.int .i64 0)).setCell ⟨w.heap.size, 4, none⟩ (.int .i64 0)).setCell ⟨w.heap.size, 5, none⟩ (.int .i64 0)).setCell ⟨w.heap.size, 6, none⟩ (.int .i64 0)).setCell ⟨w.heap.size, 7, none⟩ (.int .i64 0)).setCell ⟨w.heap.size, 8, none⟩ (.int .i64 0)).setCell ⟨w.heap.size, 9, none⟩ (.string ⟨#[]⟩)).setCell ⟨w.heap.size, 10, none⟩ (.int .i64 0)).setCell ⟨w.heap.size, 11, none⟩ (.int .i64 0)).setCell ⟨w.heap.size, 12, none⟩ (.int .i64 0)) := bel_put hB9 (Nat.le_refl _) M1.zeroU
    clear c0 c1 c2 c3 c4 c5 c6 c7 c8 c9 c10 c11 c12 r0 r1 r2 r3 r4 r5 r6 r7 r8 r9 r10 r11 r12 y0 y1 y2 y3 y4 y5 y6 y7 y8 y9 y10 y11 y12 rp9 rr9
    obtain ⟨W10, hW10⟩ : ∃ W, (((((((((((((w9.setCell ⟨w.heap.size, 0, none⟩ (.int .i64 0)).setCell ⟨w.heap.size, 1, none⟩ (.int .i64 0)).setCell ⟨w.heap.size, 2, none⟩ (.int .i64 0)).setCell ⟨w.heap.size, 3, none⟩ (.int .i64 0)).setCell ⟨w.heap.size, 4, none⟩ (.int .i64 0)).setCell ⟨w.heap.size, 5, none⟩ (.int .i64 0)).setCell ⟨w.heap.size, 6, none⟩ (.int .i64 0)).setCell ⟨w.heap.size, 7, none⟩ (.int .i64 0)).setCell ⟨w.heap.size, 8, none⟩ (.int .i64 0)).setCell ⟨w.heap.size, 9, none⟩ (.string ⟨#[]⟩)).setCell ⟨w.heap.size, 10, none⟩ (.int .i64 0)).setCell ⟨w.heap.size, 11, none⟩ (.int .i64 0)).setCell ⟨w.heap.size, 12, none⟩ (.int .i64 0)) = W := ⟨_, rfl⟩
    rw [hW10] at rr10 hB10 ⊢
    clear hW10
    obtain ⟨v0, v1, v2, v3, v4, v5, v6, v7, v8, v9, v10, v11, v12⟩ := uq_cells rr10
    unfold M1.zeroU at v0 v1 v2 v3 v4 v5 v6 v7 v8 v9 v10 v11 v12
    refine bodyPost_ret (v := .tuple #[.agg #[.int .i64 0, .int .i64 0, .int .i64 0, .int .i64 0, .int .i64 0, .int .i64 0, .int .i64 0, .int .i64 0, .int .i64 0, .string ByteArray.empty, .int .i64 0, .int .i64 0, .int .i64 0], .bool false]) (by simp [results, Tryz.results35, go_sem, v0, v1, v2, v3, v4, v5, v6, v7, v8, v9, v10, v11, v12]) rfl ?_
    exact ⟨by rw [HR.out], hB10⟩

set_option maxHeartbeats 8000000 in
set_option maxRecDepth 100000 in
theorem ru_none (s : ByteArray) (w : World) (hs : s.size ≤ maxLen) (hs3 : s.size ≤ 200) (e1 : ¬ (((wB s.data.toList).getD 0 ByteArray.empty).toList == [115, 112, 97, 110]) = true) (e2 : ¬ (((wB s.data.toList).getD 0 ByteArray.empty).toList == [107, 101, 101, 112]) = true) (e3 : ¬ (((wB s.data.toList).getD 0 ByteArray.empty).toList == [108, 105, 102, 101]) = true) :
    Calls Tryz.prog 35 #[.string s] w fun e w' => e = .returned (RdW s.data.toList) ∧ Below w.heap.size w w' := by
  have hs2 := hs
  unfold maxLen at hs2
  have hA : Below w.heap.size w (w.alloc (.cells #[.int .i64 0, .int .i64 0, .int .i64 0, .int .i64 0, .int .i64 0, .int .i64 0, .int .i64 0, .int .i64 0, .int .i64 0, .string ⟨#[]⟩, .int .i64 0, .int .i64 0, .int .i64 0] 47)) := (Below.refl _ _).alloc (Nat.le_refl _) _
  replace e1 := (⟨e1⟩ : PLift _)
  replace e2 := (⟨e2⟩ : PLift _)
  replace e3 := (⟨e3⟩ : PLift _)
  go_enter Tryz.func35, Tryz.ntmps35
  go_upto_region 3 with fail
  obtain ⟨W0, hW0⟩ : ∃ W, w.alloc (.cells #[.int .i64 0, .int .i64 0, .int .i64 0, .int .i64 0, .int .i64 0, .int .i64 0, .int .i64 0, .int .i64 0, .int .i64 0, .string ⟨#[]⟩, .int .i64 0, .int .i64 0, .int .i64 0] 47) = W := ⟨_, rfl⟩
  have rr0 := uq_new w M1.zeroU 47
  unfold M1.zeroU at rr0
  rw [show (ByteArray.empty) = (⟨#[]⟩ : ByteArray) from rfl] at rr0
  rw [hW0] at hA rr0 ⊢
  clear hW0
  have hr0 := rr0.lt
  go_wp2_with fail
  refine (l2Words_any s _ hs3).mono ?_
  rintro e w1 ⟨⟨g, c, n, rfl, hn, own⟩, hb1⟩
  have hB1 := hA.trans (hb1.mono hA.size)
  have wd := wds_of_owns hn.out own
  have hl : Hid (∀ x ∈ wB s.data.toList, x.size ≤ maxLen) := fun x hx => by have := wB_size hs3 x hx; unfold maxLen; omega
  have hn0 : 1 ≤ n := by rw [← hn.out]; unfold wB; rw [List.length_map]; exact List.length_pos_iff.2 (M1.spl_ne _)
  have hnM : n ≤ 201 := by rw [← hn.out]; have := wB_len s.data.toList; rw [M1.len_list] at this; omega
  obtain ⟨xs, hxs⟩ : ∃ xs, Hid (wB s.data.toList = xs) := ⟨_, rfl⟩
  rw [hxs.out] at wd hl
  clear own
  have c1 := wd.cap
  have c2 := wd.most
  unfold maxLen at c2
  obtain ⟨n1, hn1⟩ : ∃ z, Hid (numW xs 1 = z) := ⟨_, rfl⟩
  obtain ⟨n2, hn2⟩ : ∃ z, Hid (numW xs 2 = z) := ⟨_, rfl⟩
  obtain ⟨n3, hn3⟩ : ∃ z, Hid (numW xs 3 = z) := ⟨_, rfl⟩
  obtain ⟨n4, hn4⟩ : ∃ z, Hid (numW xs 4 = z) := ⟨_, rfl⟩
  obtain ⟨n5, hn5⟩ : ∃ z, Hid (numW xs 5 = z) := ⟨_, rfl⟩
  go_wp2_with fail
  refine (l2Num_any g n c 1 xs _ wd (by omega) hl).mono ?_
  rw [hn1.out]
  rintro e w2 ⟨rfl, rfl⟩
  go_wp2_with fail
  refine (l2Num_any g n c 2 xs _ wd (by omega) hl).mono ?_
  rw [hn2.out]
  rintro e w2 ⟨rfl, rfl⟩
  go_wp2_with fail
  refine (l2Num_any g n c 5 xs _ wd (by omega) hl).mono ?_
  rw [hn5.out]
  rintro e w2 ⟨rfl, rfl⟩
  have hA3 : Below w2.heap.size w2 (w2.alloc (.cells #[.int .i64 n1, .int .i64 n2, .int .i64 0, .int .i64 0, .int .i64 0, .int .i64 0, .int .i64 n5, .int .i64 0, .int .i64 0, .string ⟨#[]⟩, .int .i64 0, .int .i64 0, .int .i64 0] 47)) := (Below.refl _ _).alloc (Nat.le_refl _) _
  have rp := uq_new w2 ⟨n1, n2, 0, 0, 0, 0, n5, 0, 0, ⟨#[]⟩, 0, 0, 0⟩ 47
  go_upto_region 5 with fail
  obtain ⟨W3, hW3⟩ : ∃ W, w2.alloc (.cells #[.int .i64 n1, .int .i64 n2, .int .i64 0, .int .i64 0, .int .i64 0, .int .i64 0, .int .i64 n5, .int .i64 0, .int .i64 0, .string ⟨#[]⟩, .int .i64 0, .int .i64 0, .int .i64 0] 47) = W := ⟨_, rfl⟩
  rw [hW3] at hA3 rp ⊢
  clear hW3
  have wd3 := wd.below hA3
  have rr3 := (rr0.below hb1).below hA3
  have hr1 : w.heap.size < w2.heap.size := by have := hb1.size; omega
  have hgp : ¬ w2.heap.size = g := by have := wd.lt; omega
  have hB3 := hB1.trans (hA3.mono hB1.size)
  obtain ⟨p, hp⟩ : ∃ p, Hid (w2.heap.size = p) := ⟨_, rfl⟩
  have hpr : ¬ p = w.heap.size := by have := hp.out; omega
  have hpB : w.heap.size ≤ p := by rw [← hp.out]; exact hB1.size
  rw [hp.out] at rp hgp ⊢
  have q0 : W3.cell? ⟨p, 0, none⟩ = some (.int .i64 n1) := rp.cell (o := 0) (by omega)
  have f2 := rp.free (o := 2) (by omega)
  have f3 := rp.free (o := 3) (by omega)
  have f4 := rp.free (o := 4) (by omega)
  have k2 := rp.cell (o := 2) (by omega)
  have k3 := rp.cell (o := 3) (by omega)
  have k4 := rp.cell (o := 4) (by omega)
  have hpl := rp.lt
  clear hA3 wd
  refine wp_region_held_drew (S := fun w' => w'.cell? ⟨p, 0, none⟩ = some (.int .i64 n1) ∧ WdsIn w' g n c xs) (by kernel_rfl) ?_ (fun hHeld => ?_)
  · exact ⟨q0, wd3.below (Below.refl _ _).drew⟩
  refine wpAnyH_take (i := 0) (v := ?_) rfl (by kernel_rfl) (by kernel_rfl) (by kernel_rfl) (fun _ _ _ h => h) (Or.inl ⟨by rfl, ?_⟩) hHeld ?_
  rotate_left
  · (intro w hSw; (try dsimp only at hSw); go_simp; try (with_reducible rfl))
  (try simp only [Act.put, aZ, bZ, cZ, dZ, eZ, fZ])
  refine wpAnyH_take (i := 2) (v := ?_) rfl (by kernel_rfl) (by kernel_rfl) (by kernel_rfl) (fun _ _ _ h => h) (Or.inl ⟨by rfl, ?_⟩) hHeld ?_
  rotate_left
  · (intro w hSw; (try dsimp only at hSw); go_simp; try (with_reducible rfl))
  (try simp only [Act.put, aZ, bZ, cZ, dZ, eZ, fZ])
  refine wpAnyH_take (i := 4) (v := ?_) rfl (by kernel_rfl) (by kernel_rfl) (by kernel_rfl) (fun _ _ _ h => h) (Or.inl ⟨by rfl, ?_⟩) hHeld ?_
  rotate_left
  · (intro w hSw; (try dsimp only at hSw); go_simp; try (with_reducible rfl))
  (try simp only [Act.put, aZ, bZ, cZ, dZ, eZ, fZ])
  refine wpAnyH_take (i := 5) (v := ?_) rfl (by kernel_rfl) (by kernel_rfl) (by kernel_rfl) (fun _ _ _ h => h) (Or.inl ⟨by rfl, ?_⟩) hHeld ?_
  rotate_left
  · (intro w hSw; (try dsimp only at hSw); go_simp; try (with_reducible rfl))
  (try simp only [Act.put, aZ, bZ, cZ, dZ, eZ, fZ])
  refine wpAnyH_take (i := 6) (v := .int .i64 n1) rfl (by kernel_rfl) (by kernel_rfl) (by kernel_rfl) (fun _ _ _ h => h) (Or.inl ⟨by rfl, ?_⟩) hHeld ?_
  · (intro w hSw; (try dsimp only at hSw); go_simp; (try rw [hSw.1]))
  (try simp only [Act.put, aZ, bZ, cZ, dZ, eZ, fZ])
  refine wpAnyH_ready (rs := [1]) (by kernel_rfl) (by simp) ?_
  refine AllReadyH.cons (o := _) rfl (fun K hK => ?_) AllReadyH.nil
  go_simp
  (refine (l2Num_any g n c 3 xs _ hHeld.2 (by omega) hl).mono ?_; rw [hn3.out]; rintro e w8 ⟨rfl, rfl⟩; go_wp2_with fail)
  refine hK.out _ _ ?_ (fun hHeld2 => ?_)
  · exact hHeld
  clear hK K hHeld
  have hHeld := hHeld2
  clear hHeld2
  (try simp only [Act.put, aZ, bZ, cZ, dZ, eZ, fZ])
  refine wpAnyH_ready (rs := [3]) (by kernel_rfl) (by simp) ?_
  refine AllReadyH.cons (o := _) rfl (fun K hK => ?_) AllReadyH.nil
  go_simp
  (refine (l2Num_any g n c 4 xs _ hHeld.2 (by omega) hl).mono ?_; rw [hn4.out]; rintro e w8 ⟨rfl, rfl⟩; go_wp2_with fail)
  refine hK.out _ _ ?_ (fun hHeld2 => ?_)
  · exact hHeld
  clear hK K hHeld
  have hHeld := hHeld2
  clear hHeld2
  (try simp only [Act.put, aZ, bZ, cZ, dZ, eZ, fZ])
  refine wpAnyH_take (i := 7) (v := ?_) rfl (by kernel_rfl) (by kernel_rfl) (by kernel_rfl) (fun _ _ _ h => h) (Or.inl ⟨by rfl, ?_⟩) hHeld ?_
  rotate_left
  · (intro w hSw; (try dsimp only at hSw); go_simp; try (with_reducible rfl))
  (try simp only [Act.put, aZ, bZ, cZ, dZ, eZ, fZ])
  refine wpAnyH_take (i := 8) (v := ?_) rfl (by kernel_rfl) (by kernel_rfl) (by kernel_rfl) (fun _ _ _ h => h) (Or.inl ⟨by rfl, ?_⟩) hHeld ?_
  rotate_left
  · (intro w hSw; (try dsimp only at hSw); go_simp; try (with_reducible rfl))
  (try simp only [Act.put, aZ, bZ, cZ, dZ, eZ, fZ])
  refine wpAnyH_ready (rs := [9]) (by kernel_rfl) (by simp) ?_
  refine AllReadyH.cons (o := _) rfl (fun K hK => ?_) AllReadyH.nil
  go_simp
  skip
  refine hK.out _ _ ?_ (fun hHeld2 => ?_)
  · exact ⟨(World.cell?_setCell_other _ _ _ _ (by simp)).trans ((World.cell?_setCell_other _ _ _ _ (by simp)).trans ((World.cell?_setCell_other _ _ _ _ (by simp)).trans hHeld.1)), ((hHeld.2.setO hgp).setO hgp).setO hgp⟩
  clear hK K hHeld
  have hHeld := hHeld2
  clear hHeld2
  (try simp only [Act.put, aZ, bZ, cZ, dZ, eZ, fZ])
  refine wpAnyH_done (by kernel_rfl) ?_ _
  have rp5 : RowAt (((W3.setCell ⟨p, 2, none⟩ (.int .i64 n3)).setCell ⟨p, 3, none⟩ (.int .i64 n4)).setCell ⟨p, 4, none⟩ (.int .i64 n1)).drew p 13 (uq ⟨n1, n2, n3, n4, n1, 0, n5, 0, 0, ⟨#[]⟩, 0, 0, 0⟩) := ((((rp.set (o := 2) (by omega) (.int .i64 n3)).set (o := 3) (by omega) (.int .i64 n4)).set (o := 4) (by omega) (.int .i64 n1)).drew).same (uq_same rfl rfl rfl rfl rfl rfl rfl rfl rfl rfl rfl rfl rfl)
  have wd5 : WdsIn (((W3.setCell ⟨p, 2, none⟩ (.int .i64 n3)).setCell ⟨p, 3, none⟩ (.int .i64 n4)).setCell ⟨p, 4, none⟩ (.int .i64 n1)).drew g n c xs := (((wd3.setO hgp).setO hgp).setO hgp).below (Below.refl _ _).drew
  have hB5 : Below w.heap.size w (((W3.setCell ⟨p, 2, none⟩ (.int .i64 n3)).setCell ⟨p, 3, none⟩ (.int .i64 n4)).setCell ⟨p, 4, none⟩ (.int .i64 n1)).drew := (((hB3.setCell (p := ⟨p, 2, none⟩) hpB _).setCell (p := ⟨p, 3, none⟩) hpB _).setCell (p := ⟨p, 4, none⟩) hpB _).drew
  have rr5 := (((rr3.far (p := ⟨p, 2, none⟩) hpr (.int .i64 n3)).far (p := ⟨p, 3, none⟩) hpr (.int .i64 n4)).far (p := ⟨p, 4, none⟩) hpr (.int .i64 n1)).drew
  generalize (((W3.setCell ⟨p, 2, none⟩ (.int .i64 n3)).setCell ⟨p, 3, none⟩ (.int .i64 n4)).setCell ⟨p, 4, none⟩ (.int .i64 n1)).drew = W5 at rp5 wd5 hB5 hHeld rr5 ⊢
  clear rp wd3 hB3 q0 f2 f3 f4 k2 k3 k4 hpl hHeld
  obtain ⟨x0, hx0⟩ : ∃ x, Hid (xs.getD 0 ByteArray.empty = x) := ⟨_, rfl⟩
  have d0 := wd5.cell 0 (by omega)
  rw [hx0.out] at d0
  have hgl := wd5.lt
  have hpl := rp5.lt
  have z0 : (0 : Int) < (n : Int) := by omega
  obtain ⟨n6, hn6⟩ : ∃ z, Hid (numW xs 6 = z) := ⟨_, rfl⟩
  have f5 := rp5.free (o := 5) (by omega)
  have q5 := rp5.cell (o := 5) (by omega)
  replace e1 := e1.down
  rw [hxs.out, hx0.out] at e1
  replace e2 := e2.down
  rw [hxs.out, hx0.out] at e2
  replace e3 := e3.down
  rw [hxs.out, hx0.out] at e3
  have rrW := rr5
  have hBW := hB5
  go_upto_region 17 with fail
  have HG : Hid (guU xs = ⟨n1, n2, n3, n4, n1, 0, n5, 0, 0, ⟨#[]⟩, 0, 0, 0⟩) := (by unfold guU; rw [hx0.out, if_neg (show ¬ x0.data.toList = M1.wSpan from fun h => e1 (tl_iff.2 h)), if_neg (show ¬ x0.data.toList = M1.wKeep from fun h => e2 (tl_iff.2 h)), if_neg (show ¬ x0.data.toList = M1.wLife from fun h => e3 (tl_iff.2 h)), hn1.out, hn2.out, hn3.out, hn4.out, hn5.out]; rfl : _ = _)
  have HGS : Hid (guU (wB s.data.toList) = ⟨n1, n2, n3, n4, n1, 0, n5, 0, 0, ⟨#[]⟩, 0, 0, 0⟩) := (by rw [hxs.out]; exact HG.out : _ = _)
  obtain ⟨x, hx⟩ : ∃ x, Hid (M1.utx ⟨n1, n2, n3, n4, n1, 0, n5, 0, 0, ⟨#[]⟩, 0, 0, 0⟩ = x) := ⟨_, rfl⟩
  obtain ⟨c0, c1, c2, c3, c4, c5, c6, c7, c8, c9, c10, c11, c12⟩ := uq_cells rp5
  have cl := (rp5).lt
  go_wp2_with fail
  refine (updateText_spec ⟨n1, n2, n3, n4, n1, 0, n5, 0, 0, ⟨#[]⟩, 0, 0, 0⟩ _ (by show (⟨#[]⟩ : ByteArray).size ≤ maxLen; unfold maxLen; decide)).mono ?_
  rw [hx.out]
  rintro e w9 ⟨rfl, hb9⟩
  have rp9 := (rp5).below hb9
  have rr9 := rrW.below hb9
  have hB9 := hBW.trans (hb9.mono hBW.size)
  clear c0 c1 c2 c3 c4 c5 c6 c7 c8 c9 c10 c11 c12 cl
  obtain ⟨c0, c1, c2, c3, c4, c5, c6, c7, c8, c9, c10, c11, c12⟩ := uq_cells rp9
  obtain ⟨r0, r1, r2, r3, r4, r5, r6, r7, r8, r9, r10, r11, r12⟩ := uq_cells rr9
  obtain ⟨y0, y1, y2, y3, y4, y5, y6, y7, y8, y9, y10, y11, y12⟩ := uq_free rr9
  have cl := rp9.lt
  have rl := rr9.lt
  go_wp2_with fail
  · rename_i h1 h2
    have HR : Hid (RdW s.data.toList = .tuple #[.agg #[.int .i64 0, .int .i64 0, .int .i64 0, .int .i64 0, .int .i64 0, .int .i64 0, .int .i64 0, .int .i64 0, .int .i64 0, .string ByteArray.empty, .int .i64 0, .int .i64 0, .int .i64 0], .bool false]) := rd_no2 h2
    have rr10 : RowAt (((((((((((((w9.setCell ⟨w.heap.size, 0, none⟩ (.int .i64 0)).setCell ⟨w.heap.size, 1, none⟩ (.int .i64 0)).setCell ⟨w.heap.size, 2, none⟩ (.int .i64 0)).setCell ⟨w.heap.size, 3, none⟩ (.int .i64 0)).setCell ⟨w.heap.size, 4, none⟩ (.int .i64 0)).setCell ⟨w.heap.size, 5, none⟩ (.int .i64 0)).setCell ⟨w.heap.size, 6, none⟩ (.int .i64 0)).setCell ⟨w.heap.size, 7, none⟩ (.int .i64 0)).setCell ⟨w.heap.size, 8, none⟩ (.int .i64 0)).setCell ⟨w.heap.size, 9, none⟩ (.string ⟨#[]⟩)).setCell ⟨w.heap.size, 10, none⟩ (.int .i64 0)).setCell ⟨w.heap.size, 11, none⟩ (.int .i64 0)).setCell ⟨w.heap.size, 12, none⟩ (.int .i64 0)) w.heap.size 13 (uq M1.zeroU) := uq_put rr9 M1.zeroU
    have hB10 : Below w.heap.size w (((((((((((((w9.setCell ⟨w.heap.size, 0, none⟩ (.int .i64 0)).setCell ⟨w.heap.size, 1, none⟩ (.int .i64 0)).setCell ⟨w.heap.size, 2, none⟩ (.int .i64 0)).setCell ⟨w.heap.size, 3, none⟩ (.int .i64 0)).setCell ⟨w.heap.size, 4, none⟩ (.int .i64 0)).setCell ⟨w.heap.size, 5, none⟩ (.int .i64 0)).setCell ⟨w.heap.size, 6, none⟩ (.int .i64 0)).setCell ⟨w.heap.size, 7, none⟩ (.int .i64 0)).setCell ⟨w.heap.size, 8, none⟩ (.int .i64 0)).setCell ⟨w.heap.size, 9, none⟩ (.string ⟨#[]⟩)).setCell ⟨w.heap.size, 10, none⟩ (.int .i64 0)).setCell ⟨w.heap.size, 11, none⟩ (.int .i64 0)).setCell ⟨w.heap.size, 12, none⟩ (.int .i64 0)) := bel_put hB9 (Nat.le_refl _) M1.zeroU
    clear c0 c1 c2 c3 c4 c5 c6 c7 c8 c9 c10 c11 c12 r0 r1 r2 r3 r4 r5 r6 r7 r8 r9 r10 r11 r12 y0 y1 y2 y3 y4 y5 y6 y7 y8 y9 y10 y11 y12 rp9 rr9
    obtain ⟨W10, hW10⟩ : ∃ W, (((((((((((((w9.setCell ⟨w.heap.size, 0, none⟩ (.int .i64 0)).setCell ⟨w.heap.size, 1, none⟩ (.int .i64 0)).setCell ⟨w.heap.size, 2, none⟩ (.int .i64 0)).setCell ⟨w.heap.size, 3, none⟩ (.int .i64 0)).setCell ⟨w.heap.size, 4, none⟩ (.int .i64 0)).setCell ⟨w.heap.size, 5, none⟩ (.int .i64 0)).setCell ⟨w.heap.size, 6, none⟩ (.int .i64 0)).setCell ⟨w.heap.size, 7, none⟩ (.int .i64 0)).setCell ⟨w.heap.size, 8, none⟩ (.int .i64 0)).setCell ⟨w.heap.size, 9, none⟩ (.string ⟨#[]⟩)).setCell ⟨w.heap.size, 10, none⟩ (.int .i64 0)).setCell ⟨w.heap.size, 11, none⟩ (.int .i64 0)).setCell ⟨w.heap.size, 12, none⟩ (.int .i64 0)) = W := ⟨_, rfl⟩
    rw [hW10] at rr10 hB10 ⊢
    clear hW10
    obtain ⟨v0, v1, v2, v3, v4, v5, v6, v7, v8, v9, v10, v11, v12⟩ := uq_cells rr10
    unfold M1.zeroU at v0 v1 v2 v3 v4 v5 v6 v7 v8 v9 v10 v11 v12
    refine bodyPost_ret (v := .tuple #[.agg #[.int .i64 0, .int .i64 0, .int .i64 0, .int .i64 0, .int .i64 0, .int .i64 0, .int .i64 0, .int .i64 0, .int .i64 0, .string ByteArray.empty, .int .i64 0, .int .i64 0, .int .i64 0], .bool false]) (by simp [results, Tryz.results35, go_sem, v0, v1, v2, v3, v4, v5, v6, v7, v8, v9, v10, v11, v12]) rfl ?_
    exact ⟨by rw [HR.out], hB10⟩
  · rename_i h1 h2
    have HR : Hid (RdW s.data.toList = .tuple #[.agg #[.int .i64 n1, .int .i64 n2, .int .i64 n3, .int .i64 n4, .int .i64 n1, .int .i64 0, .int .i64 n5, .int .i64 0, .int .i64 0, .string ⟨#[]⟩, .int .i64 0, .int .i64 0, .int .i64 0], .bool true]) := rd_yes HGS.out hx.out h1 h2
    have rr10 : RowAt (((((((((((((w9.setCell ⟨w.heap.size, 0, none⟩ (.int .i64 n1)).setCell ⟨w.heap.size, 1, none⟩ (.int .i64 n2)).setCell ⟨w.heap.size, 2, none⟩ (.int .i64 n3)).setCell ⟨w.heap.size, 3, none⟩ (.int .i64 n4)).setCell ⟨w.heap.size, 4, none⟩ (.int .i64 n1)).setCell ⟨w.heap.size, 5, none⟩ (.int .i64 0)).setCell ⟨w.heap.size, 6, none⟩ (.int .i64 n5)).setCell ⟨w.heap.size, 7, none⟩ (.int .i64 0)).setCell ⟨w.heap.size, 8, none⟩ (.int .i64 0)).setCell ⟨w.heap.size, 9, none⟩ (.string ⟨#[]⟩)).setCell ⟨w.heap.size, 10, none⟩ (.int .i64 0)).setCell ⟨w.heap.size, 11, none⟩ (.int .i64 0)).setCell ⟨w.heap.size, 12, none⟩ (.int .i64 0)) w.heap.size 13 (uq ⟨n1, n2, n3, n4, n1, 0, n5, 0, 0, ⟨#[]⟩, 0, 0, 0⟩) := uq_put rr9 ⟨n1, n2, n3, n4, n1, 0, n5, 0, 0, ⟨#[]⟩, 0, 0, 0⟩
    have hB10 : Below w.heap.size w (((((((((((((w9.setCell ⟨w.heap.size, 0, none⟩ (.int .i64 n1)).setCell ⟨w.heap.size, 1, none⟩ (.int .i64 n2)).setCell ⟨w.heap.size, 2, none⟩ (.int .i64 n3)).setCell ⟨w.heap.size, 3, none⟩ (.int .i64 n4)).setCell ⟨w.heap.size, 4, none⟩ (.int .i64 n1)).setCell ⟨w.heap.size, 5, none⟩ (.int .i64 0)).setCell ⟨w.heap.size, 6, none⟩ (.int .i64 n5)).setCell ⟨w.heap.size, 7, none⟩ (.int .i64 0)).setCell ⟨w.heap.size, 8, none⟩ (.int .i64 0)).setCell ⟨w.heap.size, 9, none⟩ (.string ⟨#[]⟩)).setCell ⟨w.heap.size, 10, none⟩ (.int .i64 0)).setCell ⟨w.heap.size, 11, none⟩ (.int .i64 0)).setCell ⟨w.heap.size, 12, none⟩ (.int .i64 0)) := bel_put hB9 (Nat.le_refl _) ⟨n1, n2, n3, n4, n1, 0, n5, 0, 0, ⟨#[]⟩, 0, 0, 0⟩
    clear c0 c1 c2 c3 c4 c5 c6 c7 c8 c9 c10 c11 c12 r0 r1 r2 r3 r4 r5 r6 r7 r8 r9 r10 r11 r12 y0 y1 y2 y3 y4 y5 y6 y7 y8 y9 y10 y11 y12 rp9 rr9
    obtain ⟨W10, hW10⟩ : ∃ W, (((((((((((((w9.setCell ⟨w.heap.size, 0, none⟩ (.int .i64 n1)).setCell ⟨w.heap.size, 1, none⟩ (.int .i64 n2)).setCell ⟨w.heap.size, 2, none⟩ (.int .i64 n3)).setCell ⟨w.heap.size, 3, none⟩ (.int .i64 n4)).setCell ⟨w.heap.size, 4, none⟩ (.int .i64 n1)).setCell ⟨w.heap.size, 5, none⟩ (.int .i64 0)).setCell ⟨w.heap.size, 6, none⟩ (.int .i64 n5)).setCell ⟨w.heap.size, 7, none⟩ (.int .i64 0)).setCell ⟨w.heap.size, 8, none⟩ (.int .i64 0)).setCell ⟨w.heap.size, 9, none⟩ (.string ⟨#[]⟩)).setCell ⟨w.heap.size, 10, none⟩ (.int .i64 0)).setCell ⟨w.heap.size, 11, none⟩ (.int .i64 0)).setCell ⟨w.heap.size, 12, none⟩ (.int .i64 0)) = W := ⟨_, rfl⟩
    rw [hW10] at rr10 hB10 ⊢
    clear hW10
    obtain ⟨v0, v1, v2, v3, v4, v5, v6, v7, v8, v9, v10, v11, v12⟩ := uq_cells rr10
    refine bodyPost_ret (v := .tuple #[.agg #[.int .i64 n1, .int .i64 n2, .int .i64 n3, .int .i64 n4, .int .i64 n1, .int .i64 0, .int .i64 n5, .int .i64 0, .int .i64 0, .string ⟨#[]⟩, .int .i64 0, .int .i64 0, .int .i64 0], .bool true]) (by simp [results, Tryz.results35, go_sem, v0, v1, v2, v3, v4, v5, v6, v7, v8, v9, v10, v11, v12]) rfl ?_
    exact ⟨by rw [HR.out], hB10⟩
  · rename_i h1
    have HR : Hid (RdW s.data.toList = .tuple #[.agg #[.int .i64 0, .int .i64 0, .int .i64 0, .int .i64 0, .int .i64 0, .int .i64 0, .int .i64 0, .int .i64 0, .int .i64 0, .string ByteArray.empty, .int .i64 0, .int .i64 0, .int .i64 0], .bool false]) := rd_no1 HGS.out hx.out h1
    have rr10 : RowAt (((((((((((((w9.setCell ⟨w.heap.size, 0, none⟩ (.int .i64 0)).setCell ⟨w.heap.size, 1, none⟩ (.int .i64 0)).setCell ⟨w.heap.size, 2, none⟩ (.int .i64 0)).setCell ⟨w.heap.size, 3, none⟩ (.int .i64 0)).setCell ⟨w.heap.size, 4, none⟩ (.int .i64 0)).setCell ⟨w.heap.size, 5, none⟩ (.int .i64 0)).setCell ⟨w.heap.size, 6, none⟩ (.int .i64 0)).setCell ⟨w.heap.size, 7, none⟩ (.int .i64 0)).setCell ⟨w.heap.size, 8, none⟩ (.int .i64 0)).setCell ⟨w.heap.size, 9, none⟩ (.string ⟨#[]⟩)).setCell ⟨w.heap.size, 10, none⟩ (.int .i64 0)).setCell ⟨w.heap.size, 11, none⟩ (.int .i64 0)).setCell ⟨w.heap.size, 12, none⟩ (.int .i64 0)) w.heap.size 13 (uq M1.zeroU) := uq_put rr9 M1.zeroU
    have hB10 : Below w.heap.size w (((((((((((((w9.setCell ⟨w.heap.size, 0, none⟩ (.int .i64 0)).setCell ⟨w.heap.size, 1, none⟩ (.int .i64 0)).setCell ⟨w.heap.size, 2, none⟩ (.int .i64 0)).setCell ⟨w.heap.size, 3, none⟩ (.int .i64 0)).setCell ⟨w.heap.size, 4, none⟩ (.int .i64 0)).setCell ⟨w.heap.size, 5, none⟩ (.int .i64 0)).setCell ⟨w.heap.size, 6, none⟩ (.int .i64 0)).setCell ⟨w.heap.size, 7, none⟩ (.int .i64 0)).setCell ⟨w.heap.size, 8, none⟩ (.int .i64 0)).setCell ⟨w.heap.size, 9, none⟩ (.string ⟨#[]⟩)).setCell ⟨w.heap.size, 10, none⟩ (.int .i64 0)).setCell ⟨w.heap.size, 11, none⟩ (.int .i64 0)).setCell ⟨w.heap.size, 12, none⟩ (.int .i64 0)) := bel_put hB9 (Nat.le_refl _) M1.zeroU
    clear c0 c1 c2 c3 c4 c5 c6 c7 c8 c9 c10 c11 c12 r0 r1 r2 r3 r4 r5 r6 r7 r8 r9 r10 r11 r12 y0 y1 y2 y3 y4 y5 y6 y7 y8 y9 y10 y11 y12 rp9 rr9
    obtain ⟨W10, hW10⟩ : ∃ W, (((((((((((((w9.setCell ⟨w.heap.size, 0, none⟩ (.int .i64 0)).setCell ⟨w.heap.size, 1, none⟩ (.int .i64 0)).setCell ⟨w.heap.size, 2, none⟩ (.int .i64 0)).setCell ⟨w.heap.size, 3, none⟩ (.int .i64 0)).setCell ⟨w.heap.size, 4, none⟩ (.int .i64 0)).setCell ⟨w.heap.size, 5, none⟩ (.int .i64 0)).setCell ⟨w.heap.size, 6, none⟩ (.int .i64 0)).setCell ⟨w.heap.size, 7, none⟩ (.int .i64 0)).setCell ⟨w.heap.size, 8, none⟩ (.int .i64 0)).setCell ⟨w.heap.size, 9, none⟩ (.string ⟨#[]⟩)).setCell ⟨w.heap.size, 10, none⟩ (.int .i64 0)).setCell ⟨w.heap.size, 11, none⟩ (.int .i64 0)).setCell ⟨w.heap.size, 12, none⟩ (.int .i64 0)) = W := ⟨_, rfl⟩
    rw [hW10] at rr10 hB10 ⊢
    clear hW10
    obtain ⟨v0, v1, v2, v3, v4, v5, v6, v7, v8, v9, v10, v11, v12⟩ := uq_cells rr10
    unfold M1.zeroU at v0 v1 v2 v3 v4 v5 v6 v7 v8 v9 v10 v11 v12
    refine bodyPost_ret (v := .tuple #[.agg #[.int .i64 0, .int .i64 0, .int .i64 0, .int .i64 0, .int .i64 0, .int .i64 0, .int .i64 0, .int .i64 0, .int .i64 0, .string ByteArray.empty, .int .i64 0, .int .i64 0, .int .i64 0], .bool false]) (by simp [results, Tryz.results35, go_sem, v0, v1, v2, v3, v4, v5, v6, v7, v8, v9, v10, v11, v12]) rfl ?_
    exact ⟨by rw [HR.out], hB10⟩

set_option maxHeartbeats 8000000 in
set_option maxRecDepth 100000 in
theorem readUpdate_spec (s : ByteArray) (w : World) (hs : s.size ≤ maxLen) :
    Calls Tryz.prog 35 #[.string s] w fun e w' => e = .returned (RdW s.data.toList) ∧ Below w.heap.size w w' := by
  have hs2 := hs
  unfold maxLen at hs2
  have hA : Below w.heap.size w (w.alloc (.cells #[.int .i64 0, .int .i64 0, .int .i64 0, .int .i64 0, .int .i64 0, .int .i64 0, .int .i64 0, .int .i64 0, .int .i64 0, .string ⟨#[]⟩, .int .i64 0, .int .i64 0, .int .i64 0] 47)) := (Below.refl _ _).alloc (Nat.le_refl _) _
  by_cases hlong : 200 < s.size
  · have HR : Hid (RdW s.data.toList = .tuple #[.agg #[.int .i64 0, .int .i64 0, .int .i64 0, .int .i64 0, .int .i64 0, .int .i64 0, .int .i64 0, .int .i64 0, .int .i64 0, .string ByteArray.empty, .int .i64 0, .int .i64 0, .int .i64 0], .bool false]) := rdW_none (rdU_long hlong)
    go_enter Tryz.func35, Tryz.ntmps35
    go_wp2_with fail
    refine bodyPost_ret (v := .tuple #[.agg #[.int .i64 0, .int .i64 0, .int .i64 0, .int .i64 0, .int .i64 0, .int .i64 0, .int .i64 0, .int .i64 0, .int .i64 0, .string ByteArray.empty, .int .i64 0, .int .i64 0, .int .i64 0], .bool false]) (by simp [results, Tryz.results35, go_sem]; try rfl) rfl ?_
    exact ⟨by rw [HR.out], hA⟩
  · have hs3 : s.size ≤ 200 := by omega
    by_cases e1 : (((wB s.data.toList).getD 0 ByteArray.empty).toList == [115, 112, 97, 110]) = true
    · by_cases h10 : 10 < (wB s.data.toList).length
      · exact ru_span1 s w hs hs3 e1 h10
      · exact ru_span2 s w hs hs3 e1 h10
    by_cases e2 : (((wB s.data.toList).getD 0 ByteArray.empty).toList == [107, 101, 101, 112]) = true
    · exact ru_keep s w hs hs3 e1 e2
    by_cases e3 : (((wB s.data.toList).getD 0 ByteArray.empty).toList == [108, 105, 102, 101]) = true
    · exact ru_life s w hs hs3 e1 e2 e3
    · exact ru_none s w hs hs3 e1 e2 e3
end Go.Proofs.YtbhidjagmonnaaaGreatDoor
