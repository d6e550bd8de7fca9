/-
  Texts of one proof, joined: Mark, Set1, Ti1, Math9, ToStamp, Upd2, ToUpd, ToUpdS.
-/
import Derived.Test.YtbhidjagmonnaaaGreatDoorZSegments08
import Derived.Test.YtbhidjagmonnaaaGreatDoorZSegments00
import Derived.Test.YtbhidjagmonnaaaGreatDoorZSegments07
import Derived.Test.YtbhidjagmonnaaaGreatDoorZSegments04
import Derived.Lib.SlicesCompact
namespace Go.Proofs.YtbhidjagmonnaaaGreatDoor
open Go.ChangeShapes Go.WideShapes Go.ChangeAt Go.RowKit

/-- A vector whose row, if it has one, is a block of lo .. hi - 1; f: its cells. -/
def MV (w : World) (av : Option Addr) (n cap lo hi : Nat) (f : Nat → Value) : Prop :=
  n ≤ cap ∧ cap ≤ maxLen ∧ ((n = 0 ∧ av = none) ∨ ∃ g, av = some ⟨g, 0, none⟩ ∧ lo ≤ g ∧ g < hi ∧ RowAt w g (n * 2) f)
/-- Nothing but that vector's own row has turned. -/
def Mk (av : Option Addr) (w w' : World) : Prop := (av = none → Below w.heap.size w w') ∧ ∀ g, av = some ⟨g, 0, none⟩ → Gr g w w'

theorem mk_none {w w' : World} (h : Below w.heap.size w w') : Mk none w w' := ⟨fun _ => h, fun _ e => by cases e⟩
theorem mk_some {w w' : World} {g : Nat} (h : Gr g w w') : Mk (some ⟨g, 0, none⟩) w w' := ⟨(fun e => by cases e), (fun g2 e => by injection e with e; injection e with e _ _; subst e; exact h)⟩
theorem MV.below {w w' : World} {av : Option Addr} {n cap lo hi : Nat} {f : Nat → Value} (h : MV w av n cap lo hi f) (hb : Below w.heap.size w w') : MV w' av n cap lo hi f :=
  ⟨h.1, h.2.1, h.2.2.imp id fun ⟨g, e, h1, h2, r⟩ => ⟨g, e, h1, h2, r.below hb⟩⟩
theorem MV.mk {w w' : World} {av bv : Option Addr} {n cap lo hi m cm lo2 hi2 : Nat} {f f2 : Nat → Value} (h : MV w av n cap lo hi f) (h2 : MV w bv m cm lo2 hi2 f2) (hm : Mk bv w w') (hd : hi ≤ lo2 ∨ hi2 ≤ lo) : MV w' av n cap lo hi f := by
  refine ⟨h.1, h.2.1, ?_⟩
  rcases h.2.2 with h0 | ⟨g, e, h3, h4, r⟩
  · exact Or.inl h0
  · refine Or.inr ⟨g, e, h3, h4, ?_⟩
    rcases h2.2.2 with ⟨_, h0⟩ | ⟨g2, e2, h5, h6, _⟩
    · exact r.below (hm.1 h0)
    · exact r.gr (hm.2 g2 e2) (by omega)
theorem Mk.below {w w' : World} {bv : Option Addr} {m cm lo2 hi2 B : Nat} {f2 : Nat → Value} (h2 : MV w bv m cm lo2 hi2 f2) (hm : Mk bv w w') (hB : B ≤ w.heap.size) (hlo : B ≤ lo2) : Below B w w' := by
  rcases h2.2.2 with ⟨_, h0⟩ | ⟨g2, e2, h5, h6, _⟩
  · exact (hm.1 h0).mono hB
  · exact gr_to (hm.2 g2 e2) hB (by omega)
theorem MV.vec {w : World} {av : Option Addr} {n cap lo hi : Nat} {ds : List (Int × Int)} (h : MV w av n cap lo hi (dcell ds)) (hl : ds.length = n) : IsVec w av n cap ds := by
  rcases h.2.2 with ⟨h0, _⟩ | ⟨g, rfl, _, _, r⟩
  · exact ⟨hl, h.1, h.2.1, Or.inl h0⟩
  · exact isVec_of_row hl h.1 h.2.1 r
theorem MV.of_owns {w : World} {base : Nat} {e : TypeId} {v : Value} {ds : List (Int × Int)} (h : w.ownsRow base e 2 v ds.length (dcs ds)) : ∃ av cap, v = .slice av ds.length cap ∧ MV w av ds.length cap base w.heap.size (dcell ds) := by
  obtain ⟨av, cap, hv, hi, hr⟩ := owns_vec h
  exact ⟨av, cap, hv, hi.hcap, hi.hmost, hr.imp (fun h => ⟨h.2, h.1⟩) fun ⟨g, e, hb, r⟩ => ⟨g, e, hb, r.lt, r⟩⟩

end Go.Proofs.YtbhidjagmonnaaaGreatDoor

namespace Go.Proofs.YtbhidjagmonnaaaGreatDoor
open Go.ChangeShapes Go.WideShapes Go.ChangeAt Go.RowKit
set_option linter.unusedSimpArgs false

/-- From place o of block b on lie the thirteen cells of u. -/
def UCells (w : World) (b o : Nat) (u : M1.Upd) : Prop := w.cell? ⟨b, o, none⟩ = some (.int .i64 u.dr) ∧ w.cell? ⟨b, o + 1, none⟩ = some (.int .i64 u.dn) ∧ w.cell? ⟨b, o + 2, none⟩ = some (.int .i64 u.sw) ∧ w.cell? ⟨b, o + 3, none⟩ = some (.int .i64 u.sc) ∧ w.cell? ⟨b, o + 4, none⟩ = some (.int .i64 u.sr) ∧ w.cell? ⟨b, o + 5, none⟩ = some (.int .i64 u.k) ∧ w.cell? ⟨b, o + 6, none⟩ = some (.int .i64 u.tr) ∧ w.cell? ⟨b, o + 7, none⟩ = some (.int .i64 u.id) ∧ w.cell? ⟨b, o + 8, none⟩ = some (.int .i64 u.pa) ∧ w.cell? ⟨b, o + 9, none⟩ = some (.string u.s) ∧ w.cell? ⟨b, o + 10, none⟩ = some (.int .i64 u.st) ∧ w.cell? ⟨b, o + 11, none⟩ = some (.int .i64 u.en) ∧ w.cell? ⟨b, o + 12, none⟩ = some (.int .i64 u.lv)

theorem UCells.below {w w' : World} {b o : Nat} {u : M1.Upd} (h : UCells w b o u) (hb : Below w.heap.size w w') (hl : b < w.heap.size) : UCells w' b o u := by
  obtain ⟨c0, c1, c2, c3, c4, c5, c6, c7, c8, c9, c10, c11, c12⟩ := h
  exact ⟨(hb.cell (p := ⟨b, o, none⟩) hl).trans c0, (hb.cell (p := ⟨b, o + 1, none⟩) hl).trans c1, (hb.cell (p := ⟨b, o + 2, none⟩) hl).trans c2, (hb.cell (p := ⟨b, o + 3, none⟩) hl).trans c3, (hb.cell (p := ⟨b, o + 4, none⟩) hl).trans c4, (hb.cell (p := ⟨b, o + 5, none⟩) hl).trans c5, (hb.cell (p := ⟨b, o + 6, none⟩) hl).trans c6, (hb.cell (p := ⟨b, o + 7, none⟩) hl).trans c7, (hb.cell (p := ⟨b, o + 8, none⟩) hl).trans c8, (hb.cell (p := ⟨b, o + 9, none⟩) hl).trans c9, (hb.cell (p := ⟨b, o + 10, none⟩) hl).trans c10, (hb.cell (p := ⟨b, o + 11, none⟩) hl).trans c11, (hb.cell (p := ⟨b, o + 12, none⟩) hl).trans c12⟩

/-- A slice of updates: its elements are us, thirteen cells each. -/
structure IsUpds (w : World) (av : Option Addr) (len cap : Nat) (us : List M1.Upd) : Prop where
  hlen : us.length = len
  hcap : len ≤ cap
  hmost : cap ≤ maxLen
  htxt : ∀ i, i < len → (M1.up us i).s.size ≤ maxLen
  hlies : len = 0 ∨ ∃ b off, av = some ⟨b, off, none⟩ ∧ b < w.heap.size ∧ ∀ i, i < len → UCells w b (off + i * 13) (M1.up us i)

theorem IsUpds.below {w w' : World} {av : Option Addr} {len cap : Nat} {us : List M1.Upd} (h : IsUpds w av len cap us) (hb : Below w.heap.size w w') : IsUpds w' av len cap us :=
  ⟨h.hlen, h.hcap, h.hmost, h.htxt, h.hlies.imp id fun ⟨b, off, e, hlt, hc⟩ => ⟨b, off, e, Nat.lt_of_lt_of_le hlt hb.size, fun i hi => (hc i hi).below hb hlt⟩⟩

/-- The cells of an update; of a row of updates. -/
def ucs (u : M1.Upd) : List Value := [.int .i64 u.dr, .int .i64 u.dn, .int .i64 u.sw, .int .i64 u.sc, .int .i64 u.sr, .int .i64 u.k, .int .i64 u.tr, .int .i64 u.id, .int .i64 u.pa, .string u.s, .int .i64 u.st, .int .i64 u.en, .int .i64 u.lv]
def ucell (us : List M1.Upd) (o : Nat) : Value := (ucs (M1.up us (o / 13))).getD (o % 13) undef
theorem ucell_at (us : List M1.Upd) (k j : Nat) (h : j < 13) : ucell us (k * 13 + j) = (ucs (M1.up us k)).getD j undef := by
  unfold ucell
  rw [show (k * 13 + j) / 13 = k from by omega, show (k * 13 + j) % 13 = j from by omega]

theorem isUpds_of_row {w : World} {g n cap : Nat} {us : List M1.Upd} (hl : us.length = n) (hc : n ≤ cap) (hm : cap ≤ maxLen) (ht : ∀ i, i < n → (M1.up us i).s.size ≤ maxLen) (h : RowAt w g (n * 13) (ucell us)) : IsUpds w (some ⟨g, 0, none⟩) n cap us := by
  refine ⟨hl, hc, hm, ht, Or.inr ⟨g, 0, rfl, h.lt, fun i hi => ?_⟩⟩
  have key : ∀ j, j < 13 → w.cell? ⟨g, i * 13 + j, none⟩ = some ((ucs (M1.up us i)).getD j undef) := fun j hj => by
    rw [h.cell (by omega), ucell_at us i j hj]
  unfold UCells
  rw [Nat.zero_add]
  exact ⟨key 0 (by omega), key 1 (by omega), key 2 (by omega), key 3 (by omega), key 4 (by omega), key 5 (by omega), key 6 (by omega), key 7 (by omega), key 8 (by omega), key 9 (by omega), key 10 (by omega), key 11 (by omega), key 12 (by omega)⟩
end Go.Proofs.YtbhidjagmonnaaaGreatDoor

namespace Go.Proofs.YtbhidjagmonnaaaGreatDoor
open Go.ChangeShapes Go.WideShapes Go.ChangeAt Go.RowKit
set_option linter.unusedSimpArgs false
set_option linter.unusedVariables false

def icell (zs : List Int) (o : Nat) : Value := .int .i64 (zs.getD o 0)
def MI (w : World) (av : Option Addr) (n cap lo hi : Nat) (f : Nat → Value) : Prop :=
  n ≤ cap ∧ cap ≤ maxLen ∧ ((n = 0 ∧ av = none) ∨ ∃ g, av = some ⟨g, 0, none⟩ ∧ lo ≤ g ∧ g < hi ∧ RowAt w g n f)
theorem MI.below {w w' : World} {av : Option Addr} {n cap lo hi : Nat} {f : Nat → Value} (h : MI w av n cap lo hi f) (hb : Below w.heap.size w w') : MI w' av n cap lo hi f :=
  ⟨h.1, h.2.1, h.2.2.imp id fun ⟨g, e, h1, h2, r⟩ => ⟨g, e, h1, h2, r.below hb⟩⟩
theorem MI.off {w w' : World} {av : Option Addr} {n cap lo hi g : Nat} {f : Nat → Value} (h : MI w av n cap lo hi f) (hg : Gr g w w') (hb : g < lo ∨ hi ≤ g) : MI w' av n cap lo hi f :=
  ⟨h.1, h.2.1, h.2.2.imp id fun ⟨k, e, h1, h2, r⟩ => ⟨k, e, h1, h2, r.gr hg (by omega)⟩⟩
theorem MI.mk {w w' : World} {av bv : Option Addr} {n cap lo hi m cm lo2 hi2 : Nat} {f f2 : Nat → Value} (h : MI w av n cap lo hi f) (h2 : MI w bv m cm lo2 hi2 f2) (hm : Mk bv w w') (hd : hi ≤ lo2 ∨ hi2 ≤ lo) : MI w' av n cap lo hi f := by
  refine ⟨h.1, h.2.1, ?_⟩
  rcases h.2.2 with h0 | ⟨g, e, h3, h4, r⟩
  · exact Or.inl h0
  · refine Or.inr ⟨g, e, h3, h4, ?_⟩
    rcases h2.2.2 with ⟨_, h0⟩ | ⟨g2, e2, h5, h6, _⟩
    · exact r.below (hm.1 h0)
    · exact r.gr (hm.2 g2 e2) (by omega)
theorem MI.mkBelow {w w' : World} {bv : Option Addr} {m cm lo2 hi2 B : Nat} {f2 : Nat → Value} (h2 : MI w bv m cm lo2 hi2 f2) (hm : Mk bv w w') (hB : B ≤ w.heap.size) (hlo : B ≤ lo2) : Below B w w' := by
  rcases h2.2.2 with ⟨_, h0⟩ | ⟨g2, e2, h5, h6, _⟩
  · exact (hm.1 h0).mono hB
  · exact gr_to (hm.2 g2 e2) hB (by omega)
theorem MI.wide {w : World} {av : Option Addr} {n cap lo hi lo2 hi2 : Nat} {f : Nat → Value} (h : MI w av n cap lo hi f) (hl : lo2 ≤ lo) (hh : hi ≤ hi2) : MI w av n cap lo2 hi2 f :=
  ⟨h.1, h.2.1, h.2.2.imp id fun ⟨g, e, h1, h2, r⟩ => ⟨g, e, by omega, by omega, r⟩⟩

end Go.Proofs.YtbhidjagmonnaaaGreatDoor

namespace M1
/-- The traces of the spans among the first k updates. -/
def trTo (us : List Upd) : Nat → List Int
  | 0 => []
  | k + 1 => if (up us k).k = 1 then trTo us k ++ [(up us k).tr] else trTo us k
theorem trTo_len (us : List Upd) : ∀ k, (trTo us k).length ≤ k
  | 0 => Nat.le_refl _
  | k + 1 => by
    have := trTo_len us k
    unfold trTo
    split
    · simp; omega
    · omega

theorem lt_unique : ∀ {a b : List Int}, a.Pairwise (· < ·) → b.Pairwise (· < ·) → (∀ x, x ∈ a ↔ x ∈ b) → a = b
  | [], [], _, _, _ => rfl
  | [], y :: b, _, _, h => absurd ((h y).2 List.mem_cons_self) (by simp)
  | x :: a, [], _, _, h => absurd ((h x).1 List.mem_cons_self) (by simp)
  | x :: a, y :: b, ha, hb, h => by
    rw [List.pairwise_cons] at ha hb
    have hx : x = y := by
      rcases List.mem_cons.1 ((h x).1 List.mem_cons_self) with e | e
      · exact e
      · rcases List.mem_cons.1 ((h y).2 List.mem_cons_self) with e' | e'
        · exact e'.symm
        · have h1 := hb.1 x e
          have h2 := ha.1 y e'
          omega
    subst hx
    rw [lt_unique ha.2 hb.2 (fun z => ?_)]
    constructor
    · intro hz
      rcases List.mem_cons.1 ((h z).1 (List.mem_cons_of_mem _ hz)) with e | e
      · have := ha.1 z hz; omega
      · exact e
    · intro hz
      rcases List.mem_cons.1 ((h z).2 (List.mem_cons_of_mem _ hz)) with e | e
      · have := hb.1 z hz; omega
      · exact e

/-- r is l with n, where it belongs. -/
def PutI (l : List Int) (n : Int) (r : List Int) : Prop :=
  (n ∈ l ∧ r = l) ∨ (n ∉ l ∧ ∃ k, k ≤ l.length ∧ (∀ j, j < k → l.getD j 0 < n) ∧ (k = l.length ∨ ¬ l.getD k 0 < n) ∧ r = (l.take k ++ [n]) ++ l.drop k)

theorem PutI.mem {l : List Int} {n : Int} {r : List Int} (h : PutI l n r) (x : Int) : x ∈ r ↔ x ∈ l ∨ x = n := by
  rcases h with ⟨h1, rfl⟩ | ⟨_, k, _, _, _, rfl⟩
  · exact ⟨Or.inl, fun h => h.elim id (fun e => e ▸ h1)⟩
  · have e : x ∈ l ↔ x ∈ l.take k ∨ x ∈ l.drop k := by rw [← List.mem_append, List.take_append_drop]
    rw [e]
    simp only [List.mem_append, List.mem_singleton]
    constructor
    · rintro ((h | h) | h)
      · exact Or.inl (Or.inl h)
      · exact Or.inr h
      · exact Or.inl (Or.inr h)
    · rintro ((h | h) | h)
      · exact Or.inl (Or.inl h)
      · exact Or.inr h
      · exact Or.inl (Or.inr h)

theorem PutI.rises {l : List Int} {n : Int} {r : List Int} (h : PutI l n r) (hl : l.Pairwise (· < ·)) : r.Pairwise (· < ·) := by
  rcases h with ⟨h1, rfl⟩ | ⟨hn, k, hk, hlo, hhi, rfl⟩
  · exact hl
  · have hsplit : l = l.take k ++ l.drop k := (List.take_append_drop k l).symm
    have hp := hl
    rw [hsplit, List.pairwise_append] at hp
    have htake : ∀ x ∈ l.take k, x < n := by
      intro x hx
      obtain ⟨j, hj, rfl⟩ := List.getElem_of_mem hx
      have hj' : j < k := by simp at hj; omega
      have := hlo j hj'
      simpa [List.getD, List.getElem?_eq_getElem (show j < l.length by omega)] using this
    have hdrop : ∀ x ∈ l.drop k, n < x := by
      intro x hx
      obtain ⟨j, hj, rfl⟩ := List.getElem_of_mem hx
      rw [List.getElem_drop]
      have hj' : k + j < l.length := by simp at hj; omega
      have hk1 : k < l.length := by omega
      have hlk : ¬ l[k] < n := by
        rcases hhi with e | e
        · omega
        · simpa [List.getD, List.getElem?_eq_getElem hk1] using e
      have hne : l[k] ≠ n := fun e => hn (e ▸ List.getElem_mem hk1)
      have hle : l[k] ≤ l[k + j] := by
        by_cases e : j = 0
        · subst e; exact Int.le_refl _
        · exact Int.le_of_lt (List.pairwise_iff_getElem.1 hl k (k + j) hk1 hj' (by omega))
      omega
    rw [List.pairwise_append]
    refine ⟨?_, hp.2.1, ?_⟩
    · rw [List.pairwise_append]
      exact ⟨hp.1, List.pairwise_singleton _ _, fun a ha b hb => by rw [List.mem_singleton.1 hb]; exact htake a ha⟩
    · intro a ha b hb
      rcases List.mem_append.1 ha with ha | ha
      · exact hp.2.2 a ha b hb
      · rw [List.mem_singleton.1 ha]; exact hdrop b hb

theorem compactTo (d : Array Int) (h : ∀ i j, i ≤ j → j < d.size → d[i]! ≤ d[j]!) : ∀ m, m ≤ d.size →
    (Go.Lib.compactUpTo d m).Pairwise (· < ·) ∧ (∀ x ∈ Go.Lib.compactUpTo d m, ∃ j, j < m ∧ d[j]! = x) ∧ ∀ j, j < m → d[j]! ∈ Go.Lib.compactUpTo d m
  | 0, _ => by
    refine ⟨?_, ?_, ?_⟩
    · simp [Go.Lib.compactUpTo]
    · intro x hx; simp [Go.Lib.compactUpTo] at hx
    · intro j hj; omega
  | m + 1, hm => by
    obtain ⟨h1, h2, h3⟩ := compactTo d h m (by omega)
    rw [Go.Lib.compactUpTo_succ]
    by_cases hk : Go.Lib.keeps d m = true
    · rw [if_pos hk]
      refine ⟨?_, ?_, ?_⟩
      · rw [List.pairwise_append]
        refine ⟨h1, List.pairwise_singleton _ _, fun a ha b hb => ?_⟩
        rw [List.mem_singleton.1 hb]
        obtain ⟨j, hj, rfl⟩ := h2 a ha
        have hm0 : m ≠ 0 := by omega
        have e1 := h j (m - 1) (by omega) (by omega)
        have e2 := h (m - 1) m (by omega) (by omega)
        have e3 : d[m]! ≠ d[m - 1]! := fun e => by
          rw [Go.Lib.keeps_neg (by omega) e] at hk; cases hk
        omega
      · intro x hx
        rcases List.mem_append.1 hx with hx | hx
        · obtain ⟨j, hj, e⟩ := h2 x hx; exact ⟨j, by omega, e⟩
        · exact ⟨m, by omega, (List.mem_singleton.1 hx).symm⟩
      · intro j hj
        by_cases e : j = m
        · rw [e]; exact List.mem_append_right _ (List.mem_singleton.2 rfl)
        · exact List.mem_append_left _ (h3 j (by omega))
    · rw [if_neg hk, List.append_nil]
      refine ⟨h1, fun x hx => ?_, fun j hj => ?_⟩
      · obtain ⟨j, hj, e⟩ := h2 x hx; exact ⟨j, by omega, e⟩
      · by_cases e : j = m
        · have hm0 : 0 < m := by
            rcases Nat.eq_zero_or_pos m with z | z
            · exact absurd (Go.Lib.keeps_lt_one d m (by omega)) hk
            · exact z
          have e3 : d[m]! = d[m - 1]! := by
            refine Classical.not_not.1 fun ne => hk (Go.Lib.keeps_pos ne)
          rw [e, e3]; exact h3 (m - 1) (by omega)
        · exact h3 j (by omega)

theorem compact_sorted {l : List Int} (h : l.Pairwise (· ≤ ·)) : (Go.Lib.compact l).Pairwise (· < ·) ∧ ∀ x, x ∈ Go.Lib.compact l ↔ x ∈ l := by
  have hd : ∀ i j, i ≤ j → j < l.toArray.size → l.toArray[i]! ≤ l.toArray[j]! := by
    intro i j hij hj
    simp at hj
    by_cases e : i = j
    · rw [e]; exact Int.le_refl _
    · have := List.pairwise_iff_getElem.1 h i j (by omega) hj (by omega)
      simpa [show i < l.length by omega, hj] using this
  obtain ⟨h1, h2, h3⟩ := compactTo l.toArray hd l.length (by simp)
  refine ⟨h1, fun x => ⟨fun hx => ?_, fun hx => ?_⟩⟩
  · obtain ⟨j, hj, e⟩ := h2 x hx
    have : l[j] = x := by simpa [hj] using e
    exact this ▸ List.getElem_mem hj
  · obtain ⟨j, hj, e⟩ := List.getElem_of_mem hx
    have := h3 j hj
    have e2 : l.toArray[j]! = x := by simpa [hj] using e
    rw [e2] at this; exact this

/-- Put one by one, or sorted and compacted. -/
theorem traces_same {us : List Upd} {k : Nat} {r : List Int} (hr : r.Pairwise (· < ·)) (hm : ∀ x, x ∈ r ↔ x ∈ trTo us k) : Go.Lib.compact ((trTo us k).mergeSort fun x y => decide (x ≤ y)) = r := by
  have hs : ((trTo us k).mergeSort fun x y => decide (x ≤ y)).Pairwise (· ≤ ·) := by
    have := List.pairwise_mergeSort (le := fun x y : Int => decide (x ≤ y)) (fun a b c h1 h2 => by simp at *; omega) (fun a b => by simp; omega) (trTo us k)
    exact this.imp (fun h => by simpa using h)
  obtain ⟨h1, h2⟩ := compact_sorted hs
  refine lt_unique h1 hr fun x => ?_
  rw [h2, List.mem_mergeSort, hm]
end M1

namespace Go.Proofs.YtbhidjagmonnaaaGreatDoor
open Go.ChangeShapes Go.WideShapes Go.ChangeAt Go.RowKit

theorem eqStamp_same (a b c : Int) (w : World) :
    Calls Tryz.prog 71 #[.agg #[.int .i64 a, .int .i64 b, .int .i64 c], .agg #[.int .i64 a, .int .i64 b, .int .i64 c]] w fun e w' => e = .returned (.bool true) ∧ Below w.heap.size w w' := by
  go_enter Tryz.func71, Tryz.ntmps71
  go_wp2
  go_ret
  refine ⟨rfl, ?_⟩
  repeat (first | (with_reducible exact Below.refl _ _) | ((with_reducible refine Below.setCell ?_ ?_ _); rotate_left; (focus (first | omega | (simp; done) | (simp; omega)))) | ((with_reducible refine Below.alloc ?_ ?_ _); rotate_left; (focus (first | omega | (simp; done) | (simp; omega)))) | (with_reducible refine Below.drew ?_))

end Go.Proofs.YtbhidjagmonnaaaGreatDoor

namespace Go.Proofs.YtbhidjagmonnaaaGreatDoor
open Go.ChangeShapes Go.WideShapes Go.ChangeAt Go.RowKit

end Go.Proofs.YtbhidjagmonnaaaGreatDoor

namespace Go.Proofs.YtbhidjagmonnaaaGreatDoor
open Go.ChangeShapes Go.WideShapes Go.ChangeAt Go.RowKit
set_option linter.unusedSimpArgs false

end Go.Proofs.YtbhidjagmonnaaaGreatDoor

namespace Go.Proofs.YtbhidjagmonnaaaGreatDoor
open Go.ChangeShapes Go.WideShapes Go.ChangeAt Go.RowKit
set_option linter.unusedSimpArgs false

theorem infoUpd0 : (Tryz.prog.info? 47).map (fun i => (i.zero, i.size, i.bytes)) = some (some (.agg #[.int .i64 0, .int .i64 0, .int .i64 0, .int .i64 0, .int .i64 0, .int .i64 0, .int .i64 0, .int .i64 0, .int .i64 0, .string ByteArray.empty, .int .i64 0, .int .i64 0, .int .i64 0]), 13, 112) := by kernel_rfl
theorem infoUpd : ∃ i, Tryz.prog.info? 47 = some i ∧ i.zero = some (.agg #[.int .i64 0, .int .i64 0, .int .i64 0, .int .i64 0, .int .i64 0, .int .i64 0, .int .i64 0, .int .i64 0, .int .i64 0, .string ByteArray.empty, .int .i64 0, .int .i64 0, .int .i64 0]) ∧ i.size = 13 ∧ i.bytes = 112 := by
  have h := infoUpd0
  cases e : Tryz.prog.info? 47 with
  | none => rw [e] at h; cases h
  | some i => rw [e] at h; simp at h; exact ⟨i, rfl, h.1, h.2.1, h.2.2⟩

end Go.Proofs.YtbhidjagmonnaaaGreatDoor
