/-
  Texts of one proof, joined: ToDotS, Own.
-/
import Derived.Test.YtccendmoeelniaaGreatDoorZIssued05
import Derived.Test.YtccendmoeelniaaGreatDoorZIssued02
import Derived.Deep.AppendLies
namespace Go.Proofs.YtccendmoeelniaaGreatDoor
open Go.ChangeShapes Go.WideShapes Go.ChangeAt Go.RowKit
def dcell (ds : List (Int × Int)) (o : Nat) : Value := if o % 2 = 0 then .int .i64 (M1.rg ds (o / 2)) else .int .i64 (M1.nm ds (o / 2))

theorem dcell_even (ds : List (Int × Int)) (k : Nat) : dcell ds (k * 2) = .int .i64 (M1.rg ds k) := by
  unfold dcell; rw [if_pos (by omega), show k * 2 / 2 = k from by omega]

theorem dcell_odd (ds : List (Int × Int)) (k : Nat) : dcell ds (k * 2 + 1) = .int .i64 (M1.nm ds k) := by
  unfold dcell; rw [if_neg (by omega), show (k * 2 + 1) / 2 = k from by omega]

theorem isVec_of_row {w : World} {g n cap : Nat} {ds : List (Int × Int)} (hl : ds.length = n) (hc : n ≤ cap) (hm : cap ≤ maxLen) (h : RowAt w g (n * 2) (dcell ds)) : IsVec w (some ⟨g, 0, none⟩) n cap ds :=
  ⟨hl, hc, hm, Or.inr ⟨g, 0, rfl, h.lt, fun i hi => ⟨by rw [Nat.zero_add, h.cell (by omega), dcell_even], by rw [Nat.zero_add, h.cell (by omega), dcell_odd]⟩⟩⟩

theorem infoDot0 : (Tryz.prog.info? 36).map (fun i => (i.zero, i.size, i.bytes)) = some (some (.agg #[.int .i64 0, .int .i64 0]), 2, 16) := by kernel_rfl

theorem infoDot : ∃ i, Tryz.prog.info? 36 = some i ∧ i.zero = some (.agg #[.int .i64 0, .int .i64 0]) ∧ i.size = 2 ∧ i.bytes = 16 := by
  have h := infoDot0
  cases e : Tryz.prog.info? 36 with
  | none => rw [e] at h; cases h
  | some i => rw [e] at h; simp at h; exact ⟨i, rfl, h.1, h.2.1, h.2.2⟩

end Go.Proofs.YtccendmoeelniaaGreatDoor

namespace Go.Proofs.YtccendmoeelniaaGreatDoor
open Go.ChangeShapes Go.WideShapes Go.ChangeAt Go.RowKit
def dcs (ds : List (Int × Int)) : List Value := ds.flatMap fun d => [.int .i64 d.1, .int .i64 d.2]

theorem dcs_snoc (ds : List (Int × Int)) (d : Int × Int) : dcs (ds ++ [d]) = dcs ds ++ [.int .i64 d.1, .int .i64 d.2] := by simp [dcs]

theorem dcs_get : ∀ (ds : List (Int × Int)) (o : Nat), o < ds.length * 2 → (dcs ds).getD o undef = dcell ds o
  | [], o, h => by simp at h
  | d :: r, 0, _ => by simp [dcs, dcell, M1.rg]
  | d :: r, 1, _ => by simp [dcs, dcell, M1.nm]
  | d :: r, o + 2, h => by
    have ih := dcs_get r o (by simp at h; omega)
    have e1 : (dcs (d :: r)).getD (o + 2) undef = (dcs r).getD o undef := by simp [dcs]
    have e2 : dcell (d :: r) (o + 2) = dcell r o := by
      unfold dcell
      rw [show (o + 2) % 2 = o % 2 from by omega, show (o + 2) / 2 = o / 2 + 1 from by omega]
      simp [M1.rg, M1.nm]
    rw [e1, e2, ih]

theorem owns_below {w w' : World} {base : Nat} {e : TypeId} {size n : Nat} {v : Value} {xs : List Value} (h : w.ownsRow base e size v n xs) (hb : Below w.heap.size w w') : w'.ownsRow base e size v n xs := by
  obtain ⟨h1, h2⟩ := h
  refine ⟨h1, h2.imp id fun ⟨g, cap, cur, hv, hg, hh, r⟩ => ⟨g, cap, cur, hv, hg, ?_, r⟩⟩
  have hlt : g < w.heap.size := by
    rcases Nat.lt_or_ge g w.heap.size with h | h
    · exact h
    · rw [Array.getElem?_eq_none h] at hh; cases hh
  rw [hb.block g hlt]; exact hh

theorem owns_vec {w : World} {base : Nat} {e : TypeId} {v : Value} {ds : List (Int × Int)} (h : w.ownsRow base e 2 v ds.length (dcs ds)) :
    ∃ av cap, v = .slice av ds.length cap ∧ IsVec w av ds.length cap ds ∧ ((av = none ∧ ds.length = 0) ∨ ∃ g, av = some ⟨g, 0, none⟩ ∧ base ≤ g ∧ RowAt w g (ds.length * 2) (dcell ds)) := by
  have h0 := h
  obtain ⟨h1, h2⟩ := h
  rcases h2 with ⟨rfl, h3⟩ | ⟨g, cap, cur, rfl, hg, hh, hn, hm, hs, ht⟩
  · exact ⟨none, 0, by rw [h3], ⟨rfl, by omega, by unfold maxLen; omega, Or.inl h3⟩, Or.inl ⟨rfl, h3⟩⟩
  · have hr := (RowAt.of_owns h0).same fun o ho => dcs_get ds o ho
    exact ⟨some ⟨g, 0, none⟩, cap, rfl, isVec_of_row rfl hn hm hr, Or.inr ⟨g, rfl, hg, hr⟩⟩

theorem owns_base {w : World} {base : Nat} {e : TypeId} {size n : Nat} {v : Value} {xs : List Value} (h : w.ownsRow base e size v n xs) : ∀ k, v.ownBlock = some k → base ≤ k := by
  intro k hk
  rcases h.2 with ⟨rfl, _⟩ | ⟨g, cap, cur, rfl, hg, _⟩
  · simp [Value.ownBlock] at hk
  · simp [Value.ownBlock] at hk; omega

theorem owns_snoc {w : World} {base : Nat} {e : TypeId} {v : Value} {ds : List (Int × Int)} {a b : Int} (h : w.ownsRow base e 2 v (ds.length + 1) (dcs ds ++ [.int .i64 a, .int .i64 b])) : w.ownsRow base e 2 v (ds ++ [(a, b)]).length (dcs (ds ++ [(a, b)])) := by
  rw [dcs_snoc]; simpa using h

theorem owns_less {w : World} {base base' : Nat} {e : TypeId} {size n : Nat} {v : Value} {xs : List Value} (h : w.ownsRow base e size v n xs) (hb : base' ≤ base) : w.ownsRow base' e size v n xs :=
  ⟨h.1, h.2.imp id fun ⟨g, cap, cur, hv, hg, r⟩ => ⟨g, cap, cur, hv, by omega, r⟩⟩

theorem owns_empty (w : World) (e : TypeId) : (w.alloc (.cells #[] e)).ownsRow w.heap.size e 2 (.slice (some ⟨w.heap.size, 0, none⟩) 0 0) ([] : List (Int × Int)).length (dcs []) := by
  refine ⟨rfl, Or.inr ⟨w.heap.size, 0, #[], rfl, Nat.le_refl _, ?_, Nat.le_refl _, by unfold maxLen; omega, rfl, rfl⟩⟩
  show (w.heap.push (.cells #[] e))[w.heap.size]? = _
  simp

theorem news2 (w : World) (a b : Value) (t : TypeId) : ∀ j u, [a, b][j]? = some u → (w.alloc (.cells #[a, b] t)).cell? ((⟨w.heap.size, 0, none⟩ : Addr).add j) = some u := by
  intro j u hu
  match j, hu with
  | 0, hu => simp at hu; subst hu; simp [Addr.add]
  | 1, hu => simp at hu; subst hu; simp [Addr.add]
  | j + 2, hu => simp at hu

theorem one2 (a b : Int) : ∀ u ∈ [Value.int .i64 a, Value.int .i64 b], u.oneCell' = true := by
  intro u hu
  simp at hu
  rcases hu with rfl | rfl <;> rfl

end Go.Proofs.YtccendmoeelniaaGreatDoor
