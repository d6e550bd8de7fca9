/-
  Texts of one proof, joined: Set1, RdrUpd, Math6.
-/
import Derived.Test.YtdpeopmbboogaaaZForest04
import Derived.Test.YtdpeopmbboogaaaZForest00
import Derived.Test.YtdpeopmbboogaaaZForest02
import Derived.Test.YtdpeopmbboogaaaZForest03
namespace Go.Proofs.Ytdpeopmbboogaaa
open Go.ChangeShapes Go.WideShapes Go.ChangeAt Go.RowKit
set_option linter.unusedSimpArgs false

/-- From place o of block b on lie the thirteen cells of u. -/
def UCells (w : World) (b o : Nat) (u : M1.Upd) : Prop := w.cell? ⟨b, o, none⟩ = some (.int .i64 u.dr) ∧ w.cell? ⟨b, o + 1, none⟩ = some (.int .i64 u.dn) ∧ w.cell? ⟨b, o + 2, none⟩ = some (.int .i64 u.sw) ∧ w.cell? ⟨b, o + 3, none⟩ = some (.int .i64 u.sc) ∧ w.cell? ⟨b, o + 4, none⟩ = some (.int .i64 u.sr) ∧ w.cell? ⟨b, o + 5, none⟩ = some (.int .i64 u.k) ∧ w.cell? ⟨b, o + 6, none⟩ = some (.int .i64 u.tr) ∧ w.cell? ⟨b, o + 7, none⟩ = some (.int .i64 u.id) ∧ w.cell? ⟨b, o + 8, none⟩ = some (.int .i64 u.pa) ∧ w.cell? ⟨b, o + 9, none⟩ = some (.string u.s) ∧ w.cell? ⟨b, o + 10, none⟩ = some (.int .i64 u.st) ∧ w.cell? ⟨b, o + 11, none⟩ = some (.int .i64 u.en) ∧ w.cell? ⟨b, o + 12, none⟩ = some (.int .i64 u.lv)

theorem UCells.below {w w' : World} {b o : Nat} {u : M1.Upd} (h : UCells w b o u) (hb : Below w.heap.size w w') (hl : b < w.heap.size) : UCells w' b o u := by
  obtain ⟨c0, c1, c2, c3, c4, c5, c6, c7, c8, c9, c10, c11, c12⟩ := h
  exact ⟨(hb.cell (p := ⟨b, o, none⟩) hl).trans c0, (hb.cell (p := ⟨b, o + 1, none⟩) hl).trans c1, (hb.cell (p := ⟨b, o + 2, none⟩) hl).trans c2, (hb.cell (p := ⟨b, o + 3, none⟩) hl).trans c3, (hb.cell (p := ⟨b, o + 4, none⟩) hl).trans c4, (hb.cell (p := ⟨b, o + 5, none⟩) hl).trans c5, (hb.cell (p := ⟨b, o + 6, none⟩) hl).trans c6, (hb.cell (p := ⟨b, o + 7, none⟩) hl).trans c7, (hb.cell (p := ⟨b, o + 8, none⟩) hl).trans c8, (hb.cell (p := ⟨b, o + 9, none⟩) hl).trans c9, (hb.cell (p := ⟨b, o + 10, none⟩) hl).trans c10, (hb.cell (p := ⟨b, o + 11, none⟩) hl).trans c11, (hb.cell (p := ⟨b, o + 12, none⟩) hl).trans c12⟩

/-- A slice of updates: its elements are us, thirteen cells each. -/
structure IsUpds (w : World) (av : Option Addr) (len cap : Nat) (us : List M1.Upd) : Prop where
  hlen : us.length = len
  hcap : len ≤ cap
  hmost : cap ≤ maxLen
  htxt : ∀ i, i < len → (M1.up us i).s.size ≤ maxLen
  hlies : len = 0 ∨ ∃ b off, av = some ⟨b, off, none⟩ ∧ b < w.heap.size ∧ ∀ i, i < len → UCells w b (off + i * 13) (M1.up us i)

theorem IsUpds.below {w w' : World} {av : Option Addr} {len cap : Nat} {us : List M1.Upd} (h : IsUpds w av len cap us) (hb : Below w.heap.size w w') : IsUpds w' av len cap us :=
  ⟨h.hlen, h.hcap, h.hmost, h.htxt, h.hlies.imp id fun ⟨b, off, e, hlt, hc⟩ => ⟨b, off, e, Nat.lt_of_lt_of_le hlt hb.size, fun i hi => (hc i hi).below hb hlt⟩⟩

/-- The cells of an update; of a row of updates. -/
def ucs (u : M1.Upd) : List Value := [.int .i64 u.dr, .int .i64 u.dn, .int .i64 u.sw, .int .i64 u.sc, .int .i64 u.sr, .int .i64 u.k, .int .i64 u.tr, .int .i64 u.id, .int .i64 u.pa, .string u.s, .int .i64 u.st, .int .i64 u.en, .int .i64 u.lv]
def ucell (us : List M1.Upd) (o : Nat) : Value := (ucs (M1.up us (o / 13))).getD (o % 13) undef
theorem ucell_at (us : List M1.Upd) (k j : Nat) (h : j < 13) : ucell us (k * 13 + j) = (ucs (M1.up us k)).getD j undef := by
  unfold ucell
  rw [show (k * 13 + j) / 13 = k from by omega, show (k * 13 + j) % 13 = j from by omega]

theorem isUpds_of_row {w : World} {g n cap : Nat} {us : List M1.Upd} (hl : us.length = n) (hc : n ≤ cap) (hm : cap ≤ maxLen) (ht : ∀ i, i < n → (M1.up us i).s.size ≤ maxLen) (h : RowAt w g (n * 13) (ucell us)) : IsUpds w (some ⟨g, 0, none⟩) n cap us := by
  refine ⟨hl, hc, hm, ht, Or.inr ⟨g, 0, rfl, h.lt, fun i hi => ?_⟩⟩
  have key : ∀ j, j < 13 → w.cell? ⟨g, i * 13 + j, none⟩ = some ((ucs (M1.up us i)).getD j undef) := fun j hj => by
    rw [h.cell (by omega), ucell_at us i j hj]
  unfold UCells
  rw [Nat.zero_add]
  exact ⟨key 0 (by omega), key 1 (by omega), key 2 (by omega), key 3 (by omega), key 4 (by omega), key 5 (by omega), key 6 (by omega), key 7 (by omega), key 8 (by omega), key 9 (by omega), key 10 (by omega), key 11 (by omega), key 12 (by omega)⟩
end Go.Proofs.Ytdpeopmbboogaaa

namespace Go.Proofs.Ytdpeopmbboogaaa
open Go.ChangeShapes Go.WideShapes Go.ChangeAt Go.RowKit
set_option linter.unusedSimpArgs false
set_option linter.unusedVariables false

def ucf (u : M1.Upd) (o : Nat) : Value := (ucs u).getD o undef
theorem ucf_same {f f' : Nat → Value} (h0 : f 0 = f' 0) (h1 : f 1 = f' 1) (h2 : f 2 = f' 2) (h3 : f 3 = f' 3) (h4 : f 4 = f' 4) (h5 : f 5 = f' 5) (h6 : f 6 = f' 6) (h7 : f 7 = f' 7) (h8 : f 8 = f' 8) (h9 : f 9 = f' 9) (h10 : f 10 = f' 10) (h11 : f 11 = f' 11) (h12 : f 12 = f' 12) : ∀ o, o < 13 → f o = f' o := fun o ho => by
  match o, ho with
  | 0, _ => exact h0
  | 1, _ => exact h1
  | 2, _ => exact h2
  | 3, _ => exact h3
  | 4, _ => exact h4
  | 5, _ => exact h5
  | 6, _ => exact h6
  | 7, _ => exact h7
  | 8, _ => exact h8
  | 9, _ => exact h9
  | 10, _ => exact h10
  | 11, _ => exact h11
  | 12, _ => exact h12
theorem rowU (w : World) (u : M1.Upd) (t : TypeId) : RowAt (w.alloc (.cells #[.int .i64 u.dr, .int .i64 u.dn, .int .i64 u.sw, .int .i64 u.sc, .int .i64 u.sr, .int .i64 u.k, .int .i64 u.tr, .int .i64 u.id, .int .i64 u.pa, .string u.s, .int .i64 u.st, .int .i64 u.en, .int .i64 u.lv] t)) w.heap.size 13 (ucf u) :=
  (RowAt.new w #[.int .i64 u.dr, .int .i64 u.dn, .int .i64 u.sw, .int .i64 u.sc, .int .i64 u.sr, .int .i64 u.k, .int .i64 u.tr, .int .i64 u.id, .int .i64 u.pa, .string u.s, .int .i64 u.st, .int .i64 u.en, .int .i64 u.lv] t).same (ucf_same rfl rfl rfl rfl rfl rfl rfl rfl rfl rfl rfl rfl rfl)

end Go.Proofs.Ytdpeopmbboogaaa

namespace M1

theorem rg_app {l : List (Int × Int)} {d : Int × Int} {i : Nat} (h : i < l.length) : rg (l ++ [d]) i = rg l i ∧ nm (l ++ [d]) i = nm l i := by
  simp [rg, nm, List.getD, List.getElem?_append_left h]
theorem rg_last (l : List (Int × Int)) (d : Int × Int) : rg (l ++ [d]) l.length = d.1 ∧ nm (l ++ [d]) l.length = d.2 := by
  simp [rg, nm, List.getD]
theorem lkTo_app {l : List (Int × Int)} {d : Int × Int} {r : Int} : ∀ k, k ≤ l.length → lkTo (l ++ [d]) k r = lkTo l k r
  | 0, _ => rfl
  | k + 1, h => by
    have := rg_app (d := d) (show k < l.length by omega)
    rw [lkTo_succ, lkTo_succ, this.1, this.2, lkTo_app k (by omega)]
theorem lk_snoc (l : List (Int × Int)) (d : Int × Int) (r : Int) : lk (l ++ [d]) r = if d.1 = r then d.2 else lk l r := by
  unfold lk
  rw [show (l ++ [d]).length = l.length + 1 from by simp, lkTo_succ, (rg_last l d).1, (rg_last l d).2, lkTo_app _ (Nat.le_refl _)]
theorem lk_dlTo (f : Int → Int) : ∀ (k : Nat) (r : Int), lk (dlTo f k) r = if 1 ≤ r ∧ r ≤ k ∧ 0 < f r then f r else 0
  | 0, r => by rw [if_neg (by omega)]; rfl
  | k + 1, r => by
    by_cases h : 0 < f (k + 1)
    · rw [dlTo_yes h, lk_snoc, lk_dlTo f k r]
      by_cases e : ((k : Int) + 1) = r
      · subst e; rw [if_pos rfl, if_pos ⟨by omega, by omega, h⟩]
      · rw [if_neg e]
        by_cases q : 1 ≤ r ∧ r ≤ k ∧ 0 < f r
        · rw [if_pos q, if_pos ⟨q.1, by omega, q.2.2⟩]
        · rw [if_neg q, if_neg (fun q2 => q ⟨q2.1, by omega, q2.2.2⟩)]
    · rw [dlTo_no h, lk_dlTo f k r]
      by_cases q : 1 ≤ r ∧ r ≤ k ∧ 0 < f r
      · rw [if_pos q, if_pos ⟨q.1, by omega, q.2.2⟩]
      · rw [if_neg q, if_neg (fun q2 => q ⟨q2.1, by
          have : r ≠ (k : Int) + 1 := fun e => h (by rw [← e]; exact q2.2.2)
          omega, q2.2.2⟩)]
theorem vecOk_snoc {l : List (Int × Int)} {d : Int × Int} (h : vecOk l = true) (hd : dotOk d.1 d.2 = true) (hr : ∀ j, j < l.length → rg l j < d.1) : vecOk (l ++ [d]) = true := by
  refine vecOk_yes fun j hj => ?_
  simp at hj
  by_cases e : j = l.length
  · subst e
    unfold vokAt
    rw [(rg_last l d).1, (rg_last l d).2, hd]
    by_cases e0 : l.length = 0
    · simp [e0]
    · have h1 := hr (l.length - 1) (by omega)
      rw [(rg_app (d := d) (show l.length - 1 < l.length by omega)).1]
      simp [h1]
  · have hj' : j < l.length := by omega
    have h1 := vecOk_all h j hj'
    unfold vokAt at h1 ⊢
    rw [(rg_app (d := d) hj').1, (rg_app (d := d) hj').2]
    by_cases e0 : j = 0
    · subst e0; simpa using h1
    · rw [(rg_app (d := d) (show j - 1 < l.length by omega)).1]; exact h1
theorem dlTo_rg (f : Int → Int) : ∀ (k : Nat) (j : Nat), j < (dlTo f k).length → rg (dlTo f k) j ≤ k
  | 0, j, h => by simp [dlTo] at h
  | k + 1, j, h => by
    by_cases q : 0 < f (k + 1)
    · rw [dlTo_yes q] at h ⊢
      simp at h
      by_cases e : j = (dlTo f k).length
      · rw [e, (rg_last _ _).1]; simp
      · rw [(rg_app (by omega)).1]; have := dlTo_rg f k j (by omega); omega
    · rw [dlTo_no q] at h ⊢
      have := dlTo_rg f k j h; omega
theorem dlTo_ok {f : Int → Int} (hf : ∀ r : Int, f r ≤ 1000000) : ∀ k : Nat, k ≤ 5 → vecOk (dlTo f k) = true
  | 0, _ => rfl
  | k + 1, h => by
    by_cases q : 0 < f (k + 1)
    · rw [dlTo_yes q]
      refine vecOk_snoc (dlTo_ok hf k (by omega)) ?_ (fun j hj => by have := dlTo_rg f k j hj; show _ < (k : Int) + 1; omega)
      have := hf ((k : Int) + 1)
      simp [dotOk, inB]; omega
    · rw [dlTo_no q]; exact dlTo_ok hf k (by omega)

theorem joinL_eq {a b : List (Int × Int)} (ha : vecOk a = true) (hb : vecOk b = true) : joinL a b = dlTo (fun r => max (lk a r) (lk b r)) 5 := by
  unfold joinL; rw [if_pos ⟨ha, hb⟩]
theorem joinL_ok {a b : List (Int × Int)} (ha : vecOk a = true) (hb : vecOk b = true) : vecOk (joinL a b) = true := by
  rw [joinL_eq ha hb]
  exact dlTo_ok (fun r => by have h1 := lk_bd ha r; have h2 := lk_bd hb r; show max (lk a r) (lk b r) ≤ _; omega) 5 (by omega)
theorem joinL_lk {a b : List (Int × Int)} (ha : vecOk a = true) (hb : vecOk b = true) (r : Int) : lk (joinL a b) r = max (lk a r) (lk b r) := by
  rw [joinL_eq ha hb, lk_dlTo]
  have h1 := lk_bd ha r
  have h2 := lk_bd hb r
  by_cases q : 1 ≤ r ∧ r ≤ ((5 : Nat) : Int) ∧ 0 < max (lk a r) (lk b r)
  · rw [if_pos q]
  · rw [if_neg q]
    by_cases hr : 1 ≤ r ∧ r ≤ 5
    · have : ¬ 0 < max (lk a r) (lk b r) := fun h => q ⟨hr.1, by have := hr.2; omega, h⟩
      omega
    · rw [lk_out ha (by omega), lk_out hb (by omega)]; rfl
theorem joinL_comm (a b : List (Int × Int)) : joinL b a = joinL a b := by
  unfold joinL
  by_cases h : vecOk a = true ∧ vecOk b = true
  · rw [if_pos h, if_pos h.symm]
    exact dlTo_congr 5 (fun r _ _ => by omega)
  · rw [if_neg h, if_neg (fun k => h k.symm)]
theorem joinL_again {a b : List (Int × Int)} (ha : vecOk a = true) (hb : vecOk b = true) : joinL (joinL a b) a = joinL a b := by
  rw [joinL_eq (joinL_ok ha hb) ha]
  conv => rhs; rw [joinL_eq ha hb]
  exact dlTo_congr 5 (fun r _ _ => by rw [joinL_lk ha hb]; omega)
theorem joinL_assoc {a b c : List (Int × Int)} (ha : vecOk a = true) (hb : vecOk b = true) (hc : vecOk c = true) : joinL (joinL a b) c = joinL a (joinL b c) := by
  rw [joinL_eq (joinL_ok ha hb) hc, joinL_eq ha (joinL_ok hb hc)]
  exact dlTo_congr 5 (fun r _ _ => by rw [joinL_lk ha hb, joinL_lk hb hc]; omega)
theorem cov_join {a b : List (Int × Int)} (ha : vecOk a = true) (hb : vecOk b = true) : covB (joinL a b) a = true ∧ covB (joinL a b) b = true := by
  constructor
  · rw [cov_iff (joinL_ok ha hb) ha]; intro r _ _; rw [joinL_lk ha hb]; omega
  · rw [cov_iff (joinL_ok ha hb) hb]; intro r _ _; rw [joinL_lk ha hb]; omega
theorem cov_both {a b c : List (Int × Int)} (ha : vecOk a = true) (hb : vecOk b = true) (hc : vecOk c = true) : covB c (joinL a b) = (covB c a && covB c b) := by
  rw [Bool.eq_iff_iff, Bool.and_eq_true, cov_iff hc (joinL_ok ha hb), cov_iff hc ha, cov_iff hc hb]
  constructor
  · intro h
    exact ⟨fun r h1 h2 => by have := h r h1 h2; rw [joinL_lk ha hb] at this; omega, fun r h1 h2 => by have := h r h1 h2; rw [joinL_lk ha hb] at this; omega⟩
  · intro ⟨h1, h2⟩ r h3 h4
    have a1 := h1 r h3 h4
    have a2 := h2 r h3 h4
    rw [joinL_lk ha hb]; omega
end M1
