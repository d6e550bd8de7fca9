/-
  Texts of one proof, joined: Math25, Mark.
-/
import Derived.Test.YtdpeopmbboogaaaZLongest17
import Derived.Test.YtdpeopmbboogaaaZLongest31
import Derived.Test.YtdpeopmbboogaaaZLongest08
import Derived.Test.YtdpeopmbboogaaaZLongest06
namespace M1
/-- How late the first k nodes end, and the path to the first that ends so. -/
def lng (O : List (Upd × Int)) : Nat → Int × List Int
  | 0 => (-1, [])
  | k + 1 => match O[k]? with
    | none => lng O k
    | some q => if (lng O k).1 < q.1.en then (q.1.en, pth O (k + 1)) else lng O k
def lngs (us : List Upd) (tr : Int) : List Int := (lng (fors us tr) (fors us tr).length).2
theorem pth_le (O : List (Upd × Int)) : ∀ k, (pth O k).length ≤ k
  | 0 => by simp [pth]
  | k + 1 => by
    have := pth_le O k
    unfold pth
    split
    · omega
    · simp; omega
theorem lng_le (O : List (Upd × Int)) : ∀ k, (lng O k).2.length ≤ k
  | 0 => by simp [lng]
  | k + 1 => by
    have h1 := lng_le O k
    have h2 := pth_le O (k + 1)
    unfold lng
    split
    · omega
    · split
      · exact h2
      · omega
theorem lngs_len (us : List Upd) (tr : Int) : (lngs us tr).length ≤ us.length := Nat.le_trans (lng_le _ _) (fors_len us tr)
theorem lng_step {O : List (Upd × Int)} {k : Nat} {q : Upd × Int} (h : O[k]? = some q) : lng O (k + 1) = if (lng O k).1 < q.1.en then (q.1.en, pth O (k + 1)) else lng O k := by
  show (match O[k]? with | none => _ | some q => _) = _
  rw [h]
theorem pth_step {O : List (Upd × Int)} {k : Nat} {q : Upd × Int} (h : O[k]? = some q) : pth O (k + 1) = (pth O k).take q.2.toNat ++ [q.1.id] := by
  show (match O[k]? with | none => _ | some q => _) = _
  rw [h]
theorem bck_step {O : List (Upd × Int)} {k : Nat} {q : Upd × Int} {D : Int} (h : O[k]? = some q) : bck O (k + 1) D = if q.2 = D then bck O k (D - 1) ++ [q.1.id] else bck O k D := by
  show (match O[k]? with | none => _ | some q => _) = _
  rw [h]
/-- The path so far is as long as the next one is deep, or longer. -/
theorem pth_room {O : List (Upd × Int)} (h : Ord O) {k : Nat} {q : Upd × Int} (hq : O[k]? = some q) : q.2.toNat ≤ (pth O k).length := by
  cases k with
  | zero => rw [h.first hq]; simp
  | succ k =>
    have hk : k < O.length := by
      have := (List.getElem?_eq_some_iff.1 hq).1
      omega
    have hp : O[k]? = some O[k] := List.getElem?_eq_getElem hk
    have h1 := h.next hq hp
    have h2 := pth_len h hp
    have h3 := (h k _ hp).1
    omega
/-- The model's best place, held against it. -/
def Bst (O : List (Upd × Int)) (k : Nat) (b : Int) : Prop := (k = 0 ∧ b = -1) ∨ ∃ (i : Nat) (q : Upd × Int), i < k ∧ b = i ∧ O[i]? = some q ∧ (lng O k).1 = q.1.en ∧ (lng O k).2 = pth O (i + 1)
theorem Bst.step {O : List (Upd × Int)} {k : Nat} {b : Int} {q : Upd × Int} (h : Bst O k b) (hq : O[k]? = some q) (h0 : 0 ≤ q.1.en) (hb : b < 0 ∨ ∃ (i : Nat) (p : Upd × Int), b = i ∧ O[i]? = some p ∧ p.1.en < q.1.en) : Bst O (k + 1) k := by
  refine Or.inr ⟨k, q, by omega, rfl, hq, ?_⟩
  rw [lng_step hq]
  have : (lng O k).1 < q.1.en := by
    rcases h with ⟨rfl, _⟩ | ⟨i, p, hi, e, hp, h1, _⟩
    · show (-1 : Int) < _; omega
    · rcases hb with hb | ⟨i2, p2, e2, hp2, hl⟩
      · omega
      · have : i2 = i := by omega
        subst this
        rw [hp] at hp2
        injection hp2 with e3
        rw [h1, e3]; exact hl
  rw [if_pos this]
  exact ⟨rfl, rfl⟩
theorem Bst.stay {O : List (Upd × Int)} {k i : Nat} {q p : Upd × Int} (h : Bst O k i) (hq : O[k]? = some q) (hp : O[i]? = some p) (hb : ¬ p.1.en < q.1.en) : Bst O (k + 1) i := by
  rcases h with ⟨_, e⟩ | ⟨i2, p2, hi, e, hp2, h1, h2⟩
  · omega
  · have : i2 = i := by omega
    subst this
    rw [hp] at hp2
    injection hp2 with e3
    refine Or.inr ⟨i2, p, by omega, rfl, hp, ?_⟩
    rw [lng_step hq, if_neg (by rw [h1, ← e3]; exact hb)]
    exact ⟨by rw [h1, e3], h2⟩
/-- What the model gathers from the best place is the path. -/
theorem bck_best {O : List (Upd × Int)} (h : Ord O) {i : Nat} {q : Upd × Int} (hq : O[i]? = some q) : bck O (i + 1) q.2 = pth O (i + 1) := by
  have h0 := (h i q hq).1
  have h1 := bck_pth h (D := q.2.toNat) hq (Nat.le_refl _)
  rw [show ((q.2.toNat : Nat) : Int) = q.2 by omega] at h1
  rw [h1, List.take_of_length_le]
  rw [pth_len h hq]
  exact Nat.le_refl _
theorem okU_en {u : Upd} (h : okU u = true) : 0 ≤ u.en := by
  unfold okU updB kindB at h
  simp only [Bool.and_eq_true] at h
  have h2 := h.2
  split at h2
  · unfold spanB inB at h2
    simp only [Bool.and_eq_true, decide_eq_true_eq] at h2
    omega
  · split at h2
    · unfold zeroB at h2
      simp only [Bool.and_eq_true, decide_eq_true_eq] at h2
      omega
    · split at h2
      · unfold zeroB at h2
        simp only [Bool.and_eq_true, decide_eq_true_eq] at h2
        omega
      · cases h2
theorem sps_en {us : List Upd} {tr : Int} {u : Upd} (h : u ∈ sps us tr) : 0 ≤ u.en := by
  unfold sps at h
  split at h
  · rename_i hs
    obtain ⟨j, hj, rfl⟩ := spTo_mem h
    exact okU_en (okAt_ok (setOk_all hs j hj))
  · cases h
theorem fors_en {us : List Upd} {tr : Int} {k : Nat} {q : Upd × Int} (h : (fors us tr)[k]? = some q) : 0 ≤ q.1.en :=
  sps_en (for_mem (sps_sorted us tr) (List.mem_of_getElem? h))
end M1

namespace Go.Proofs.Ytdpeopmbboogaaa
open Go.ChangeShapes Go.WideShapes Go.ChangeAt Go.RowKit

/-- A vector whose row, if it has one, is a block of lo .. hi - 1; f: its cells. -/
def MV (w : World) (av : Option Addr) (n cap lo hi : Nat) (f : Nat → Value) : Prop :=
  n ≤ cap ∧ cap ≤ maxLen ∧ ((n = 0 ∧ av = none) ∨ ∃ g, av = some ⟨g, 0, none⟩ ∧ lo ≤ g ∧ g < hi ∧ RowAt w g (n * 2) f)
/-- Nothing but that vector's own row has turned. -/
def Mk (av : Option Addr) (w w' : World) : Prop := (av = none → Below w.heap.size w w') ∧ ∀ g, av = some ⟨g, 0, none⟩ → Gr g w w'

theorem mk_none {w w' : World} (h : Below w.heap.size w w') : Mk none w w' := ⟨fun _ => h, fun _ e => by cases e⟩
theorem mk_some {w w' : World} {g : Nat} (h : Gr g w w') : Mk (some ⟨g, 0, none⟩) w w' := ⟨(fun e => by cases e), (fun g2 e => by injection e with e; injection e with e _ _; subst e; exact h)⟩
theorem MV.below {w w' : World} {av : Option Addr} {n cap lo hi : Nat} {f : Nat → Value} (h : MV w av n cap lo hi f) (hb : Below w.heap.size w w') : MV w' av n cap lo hi f :=
  ⟨h.1, h.2.1, h.2.2.imp id fun ⟨g, e, h1, h2, r⟩ => ⟨g, e, h1, h2, r.below hb⟩⟩
theorem MV.mk {w w' : World} {av bv : Option Addr} {n cap lo hi m cm lo2 hi2 : Nat} {f f2 : Nat → Value} (h : MV w av n cap lo hi f) (h2 : MV w bv m cm lo2 hi2 f2) (hm : Mk bv w w') (hd : hi ≤ lo2 ∨ hi2 ≤ lo) : MV w' av n cap lo hi f := by
  refine ⟨h.1, h.2.1, ?_⟩
  rcases h.2.2 with h0 | ⟨g, e, h3, h4, r⟩
  · exact Or.inl h0
  · refine Or.inr ⟨g, e, h3, h4, ?_⟩
    rcases h2.2.2 with ⟨_, h0⟩ | ⟨g2, e2, h5, h6, _⟩
    · exact r.below (hm.1 h0)
    · exact r.gr (hm.2 g2 e2) (by omega)
theorem Mk.below {w w' : World} {bv : Option Addr} {m cm lo2 hi2 B : Nat} {f2 : Nat → Value} (h2 : MV w bv m cm lo2 hi2 f2) (hm : Mk bv w w') (hB : B ≤ w.heap.size) (hlo : B ≤ lo2) : Below B w w' := by
  rcases h2.2.2 with ⟨_, h0⟩ | ⟨g2, e2, h5, h6, _⟩
  · exact (hm.1 h0).mono hB
  · exact gr_to (hm.2 g2 e2) hB (by omega)
theorem MV.vec {w : World} {av : Option Addr} {n cap lo hi : Nat} {ds : List (Int × Int)} (h : MV w av n cap lo hi (dcell ds)) (hl : ds.length = n) : IsVec w av n cap ds := by
  rcases h.2.2 with ⟨h0, _⟩ | ⟨g, rfl, _, _, r⟩
  · exact ⟨hl, h.1, h.2.1, Or.inl h0⟩
  · exact isVec_of_row hl h.1 h.2.1 r
theorem MV.of_owns {w : World} {base : Nat} {e : TypeId} {v : Value} {ds : List (Int × Int)} (h : w.ownsRow base e 2 v ds.length (dcs ds)) : ∃ av cap, v = .slice av ds.length cap ∧ MV w av ds.length cap base w.heap.size (dcell ds) := by
  obtain ⟨av, cap, hv, hi, hr⟩ := owns_vec h
  exact ⟨av, cap, hv, hi.hcap, hi.hmost, hr.imp (fun h => ⟨h.2, h.1⟩) fun ⟨g, e, hb, r⟩ => ⟨g, e, hb, r.lt, r⟩⟩

end Go.Proofs.Ytdpeopmbboogaaa
