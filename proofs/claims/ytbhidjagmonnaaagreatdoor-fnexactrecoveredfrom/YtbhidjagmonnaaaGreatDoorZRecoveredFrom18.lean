/-
  Texts of one proof, joined: Mark, Set1, Ti1.
-/
import Derived.Test.YtbhidjagmonnaaaGreatDoorZRecoveredFrom08
import Derived.Test.YtbhidjagmonnaaaGreatDoorZRecoveredFrom00
import Derived.Test.YtbhidjagmonnaaaGreatDoorZRecoveredFrom07
import Derived.Test.YtbhidjagmonnaaaGreatDoorZRecoveredFrom04
namespace Go.Proofs.YtbhidjagmonnaaaGreatDoor
open Go.ChangeShapes Go.WideShapes Go.ChangeAt Go.RowKit

/-- A vector whose row, if it has one, is a block of lo .. hi - 1; f: its cells. -/
def MV (w : World) (av : Option Addr) (n cap lo hi : Nat) (f : Nat → Value) : Prop :=
  n ≤ cap ∧ cap ≤ maxLen ∧ ((n = 0 ∧ av = none) ∨ ∃ g, av = some ⟨g, 0, none⟩ ∧ lo ≤ g ∧ g < hi ∧ RowAt w g (n * 2) f)
/-- Nothing but that vector's own row has turned. -/
def Mk (av : Option Addr) (w w' : World) : Prop := (av = none → Below w.heap.size w w') ∧ ∀ g, av = some ⟨g, 0, none⟩ → Gr g w w'

theorem mk_none {w w' : World} (h : Below w.heap.size w w') : Mk none w w' := ⟨fun _ => h, fun _ e => by cases e⟩
theorem mk_some {w w' : World} {g : Nat} (h : Gr g w w') : Mk (some ⟨g, 0, none⟩) w w' := ⟨(fun e => by cases e), (fun g2 e => by injection e with e; injection e with e _ _; subst e; exact h)⟩
theorem MV.below {w w' : World} {av : Option Addr} {n cap lo hi : Nat} {f : Nat → Value} (h : MV w av n cap lo hi f) (hb : Below w.heap.size w w') : MV w' av n cap lo hi f :=
  ⟨h.1, h.2.1, h.2.2.imp id fun ⟨g, e, h1, h2, r⟩ => ⟨g, e, h1, h2, r.below hb⟩⟩
theorem MV.mk {w w' : World} {av bv : Option Addr} {n cap lo hi m cm lo2 hi2 : Nat} {f f2 : Nat → Value} (h : MV w av n cap lo hi f) (h2 : MV w bv m cm lo2 hi2 f2) (hm : Mk bv w w') (hd : hi ≤ lo2 ∨ hi2 ≤ lo) : MV w' av n cap lo hi f := by
  refine ⟨h.1, h.2.1, ?_⟩
  rcases h.2.2 with h0 | ⟨g, e, h3, h4, r⟩
  · exact Or.inl h0
  · refine Or.inr ⟨g, e, h3, h4, ?_⟩
    rcases h2.2.2 with ⟨_, h0⟩ | ⟨g2, e2, h5, h6, _⟩
    · exact r.below (hm.1 h0)
    · exact r.gr (hm.2 g2 e2) (by omega)
theorem Mk.below {w w' : World} {bv : Option Addr} {m cm lo2 hi2 B : Nat} {f2 : Nat → Value} (h2 : MV w bv m cm lo2 hi2 f2) (hm : Mk bv w w') (hB : B ≤ w.heap.size) (hlo : B ≤ lo2) : Below B w w' := by
  rcases h2.2.2 with ⟨_, h0⟩ | ⟨g2, e2, h5, h6, _⟩
  · exact (hm.1 h0).mono hB
  · exact gr_to (hm.2 g2 e2) hB (by omega)
theorem MV.vec {w : World} {av : Option Addr} {n cap lo hi : Nat} {ds : List (Int × Int)} (h : MV w av n cap lo hi (dcell ds)) (hl : ds.length = n) : IsVec w av n cap ds := by
  rcases h.2.2 with ⟨h0, _⟩ | ⟨g, rfl, _, _, r⟩
  · exact ⟨hl, h.1, h.2.1, Or.inl h0⟩
  · exact isVec_of_row hl h.1 h.2.1 r
theorem MV.of_owns {w : World} {base : Nat} {e : TypeId} {v : Value} {ds : List (Int × Int)} (h : w.ownsRow base e 2 v ds.length (dcs ds)) : ∃ av cap, v = .slice av ds.length cap ∧ MV w av ds.length cap base w.heap.size (dcell ds) := by
  obtain ⟨av, cap, hv, hi, hr⟩ := owns_vec h
  exact ⟨av, cap, hv, hi.hcap, hi.hmost, hr.imp (fun h => ⟨h.2, h.1⟩) fun ⟨g, e, hb, r⟩ => ⟨g, e, hb, r.lt, r⟩⟩

end Go.Proofs.YtbhidjagmonnaaaGreatDoor

namespace Go.Proofs.YtbhidjagmonnaaaGreatDoor
open Go.ChangeShapes Go.WideShapes Go.ChangeAt Go.RowKit
set_option linter.unusedSimpArgs false

/-- From place o of block b on lie the thirteen cells of u. -/
def UCells (w : World) (b o : Nat) (u : M1.Upd) : Prop := w.cell? ⟨b, o, none⟩ = some (.int .i64 u.dr) ∧ w.cell? ⟨b, o + 1, none⟩ = some (.int .i64 u.dn) ∧ w.cell? ⟨b, o + 2, none⟩ = some (.int .i64 u.sw) ∧ w.cell? ⟨b, o + 3, none⟩ = some (.int .i64 u.sc) ∧ w.cell? ⟨b, o + 4, none⟩ = some (.int .i64 u.sr) ∧ w.cell? ⟨b, o + 5, none⟩ = some (.int .i64 u.k) ∧ w.cell? ⟨b, o + 6, none⟩ = some (.int .i64 u.tr) ∧ w.cell? ⟨b, o + 7, none⟩ = some (.int .i64 u.id) ∧ w.cell? ⟨b, o + 8, none⟩ = some (.int .i64 u.pa) ∧ w.cell? ⟨b, o + 9, none⟩ = some (.string u.s) ∧ w.cell? ⟨b, o + 10, none⟩ = some (.int .i64 u.st) ∧ w.cell? ⟨b, o + 11, none⟩ = some (.int .i64 u.en) ∧ w.cell? ⟨b, o + 12, none⟩ = some (.int .i64 u.lv)

theorem UCells.below {w w' : World} {b o : Nat} {u : M1.Upd} (h : UCells w b o u) (hb : Below w.heap.size w w') (hl : b < w.heap.size) : UCells w' b o u := by
  obtain ⟨c0, c1, c2, c3, c4, c5, c6, c7, c8, c9, c10, c11, c12⟩ := h
  exact ⟨(hb.cell (p := ⟨b, o, none⟩) hl).trans c0, (hb.cell (p := ⟨b, o + 1, none⟩) hl).trans c1, (hb.cell (p := ⟨b, o + 2, none⟩) hl).trans c2, (hb.cell (p := ⟨b, o + 3, none⟩) hl).trans c3, (hb.cell (p := ⟨b, o + 4, none⟩) hl).trans c4, (hb.cell (p := ⟨b, o + 5, none⟩) hl).trans c5, (hb.cell (p := ⟨b, o + 6, none⟩) hl).trans c6, (hb.cell (p := ⟨b, o + 7, none⟩) hl).trans c7, (hb.cell (p := ⟨b, o + 8, none⟩) hl).trans c8, (hb.cell (p := ⟨b, o + 9, none⟩) hl).trans c9, (hb.cell (p := ⟨b, o + 10, none⟩) hl).trans c10, (hb.cell (p := ⟨b, o + 11, none⟩) hl).trans c11, (hb.cell (p := ⟨b, o + 12, none⟩) hl).trans c12⟩

/-- A slice of updates: its elements are us, thirteen cells each. -/
structure IsUpds (w : World) (av : Option Addr) (len cap : Nat) (us : List M1.Upd) : Prop where
  hlen : us.length = len
  hcap : len ≤ cap
  hmost : cap ≤ maxLen
  htxt : ∀ i, i < len → (M1.up us i).s.size ≤ maxLen
  hlies : len = 0 ∨ ∃ b off, av = some ⟨b, off, none⟩ ∧ b < w.heap.size ∧ ∀ i, i < len → UCells w b (off + i * 13) (M1.up us i)

theorem IsUpds.below {w w' : World} {av : Option Addr} {len cap : Nat} {us : List M1.Upd} (h : IsUpds w av len cap us) (hb : Below w.heap.size w w') : IsUpds w' av len cap us :=
  ⟨h.hlen, h.hcap, h.hmost, h.htxt, h.hlies.imp id fun ⟨b, off, e, hlt, hc⟩ => ⟨b, off, e, Nat.lt_of_lt_of_le hlt hb.size, fun i hi => (hc i hi).below hb hlt⟩⟩

/-- The cells of an update; of a row of updates. -/
def ucs (u : M1.Upd) : List Value := [.int .i64 u.dr, .int .i64 u.dn, .int .i64 u.sw, .int .i64 u.sc, .int .i64 u.sr, .int .i64 u.k, .int .i64 u.tr, .int .i64 u.id, .int .i64 u.pa, .string u.s, .int .i64 u.st, .int .i64 u.en, .int .i64 u.lv]
def ucell (us : List M1.Upd) (o : Nat) : Value := (ucs (M1.up us (o / 13))).getD (o % 13) undef
theorem ucell_at (us : List M1.Upd) (k j : Nat) (h : j < 13) : ucell us (k * 13 + j) = (ucs (M1.up us k)).getD j undef := by
  unfold ucell
  rw [show (k * 13 + j) / 13 = k from by omega, show (k * 13 + j) % 13 = j from by omega]

theorem isUpds_of_row {w : World} {g n cap : Nat} {us : List M1.Upd} (hl : us.length = n) (hc : n ≤ cap) (hm : cap ≤ maxLen) (ht : ∀ i, i < n → (M1.up us i).s.size ≤ maxLen) (h : RowAt w g (n * 13) (ucell us)) : IsUpds w (some ⟨g, 0, none⟩) n cap us := by
  refine ⟨hl, hc, hm, ht, Or.inr ⟨g, 0, rfl, h.lt, fun i hi => ?_⟩⟩
  have key : ∀ j, j < 13 → w.cell? ⟨g, i * 13 + j, none⟩ = some ((ucs (M1.up us i)).getD j undef) := fun j hj => by
    rw [h.cell (by omega), ucell_at us i j hj]
  unfold UCells
  rw [Nat.zero_add]
  exact ⟨key 0 (by omega), key 1 (by omega), key 2 (by omega), key 3 (by omega), key 4 (by omega), key 5 (by omega), key 6 (by omega), key 7 (by omega), key 8 (by omega), key 9 (by omega), key 10 (by omega), key 11 (by omega), key 12 (by omega)⟩
end Go.Proofs.YtbhidjagmonnaaaGreatDoor

namespace Go.Proofs.YtbhidjagmonnaaaGreatDoor
open Go.ChangeShapes Go.WideShapes Go.ChangeAt Go.RowKit
set_option linter.unusedSimpArgs false
set_option linter.unusedVariables false

def icell (zs : List Int) (o : Nat) : Value := .int .i64 (zs.getD o 0)
def MI (w : World) (av : Option Addr) (n cap lo hi : Nat) (f : Nat → Value) : Prop :=
  n ≤ cap ∧ cap ≤ maxLen ∧ ((n = 0 ∧ av = none) ∨ ∃ g, av = some ⟨g, 0, none⟩ ∧ lo ≤ g ∧ g < hi ∧ RowAt w g n f)
theorem MI.below {w w' : World} {av : Option Addr} {n cap lo hi : Nat} {f : Nat → Value} (h : MI w av n cap lo hi f) (hb : Below w.heap.size w w') : MI w' av n cap lo hi f :=
  ⟨h.1, h.2.1, h.2.2.imp id fun ⟨g, e, h1, h2, r⟩ => ⟨g, e, h1, h2, r.below hb⟩⟩
theorem MI.off {w w' : World} {av : Option Addr} {n cap lo hi g : Nat} {f : Nat → Value} (h : MI w av n cap lo hi f) (hg : Gr g w w') (hb : g < lo ∨ hi ≤ g) : MI w' av n cap lo hi f :=
  ⟨h.1, h.2.1, h.2.2.imp id fun ⟨k, e, h1, h2, r⟩ => ⟨k, e, h1, h2, r.gr hg (by omega)⟩⟩
theorem MI.mk {w w' : World} {av bv : Option Addr} {n cap lo hi m cm lo2 hi2 : Nat} {f f2 : Nat → Value} (h : MI w av n cap lo hi f) (h2 : MI w bv m cm lo2 hi2 f2) (hm : Mk bv w w') (hd : hi ≤ lo2 ∨ hi2 ≤ lo) : MI w' av n cap lo hi f := by
  refine ⟨h.1, h.2.1, ?_⟩
  rcases h.2.2 with h0 | ⟨g, e, h3, h4, r⟩
  · exact Or.inl h0
  · refine Or.inr ⟨g, e, h3, h4, ?_⟩
    rcases h2.2.2 with ⟨_, h0⟩ | ⟨g2, e2, h5, h6, _⟩
    · exact r.below (hm.1 h0)
    · exact r.gr (hm.2 g2 e2) (by omega)
theorem MI.mkBelow {w w' : World} {bv : Option Addr} {m cm lo2 hi2 B : Nat} {f2 : Nat → Value} (h2 : MI w bv m cm lo2 hi2 f2) (hm : Mk bv w w') (hB : B ≤ w.heap.size) (hlo : B ≤ lo2) : Below B w w' := by
  rcases h2.2.2 with ⟨_, h0⟩ | ⟨g2, e2, h5, h6, _⟩
  · exact (hm.1 h0).mono hB
  · exact gr_to (hm.2 g2 e2) hB (by omega)
theorem MI.wide {w : World} {av : Option Addr} {n cap lo hi lo2 hi2 : Nat} {f : Nat → Value} (h : MI w av n cap lo hi f) (hl : lo2 ≤ lo) (hh : hi ≤ hi2) : MI w av n cap lo2 hi2 f :=
  ⟨h.1, h.2.1, h.2.2.imp id fun ⟨g, e, h1, h2, r⟩ => ⟨g, e, by omega, by omega, r⟩⟩

end Go.Proofs.YtbhidjagmonnaaaGreatDoor
