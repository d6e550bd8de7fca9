/-
  Texts of one proof, joined: Set1, ToStamp.
-/
import Derived.Test.YtgcinolbkllkkaaGreatZXWorldOk02
import Derived.Test.YtgcinolbkllkkaaGreatZXWorldOk03
import Derived.Test.YtgcinolbkllkkaaGreatZXWorldOk00
import Derived.Test.YtgcinolbkllkkaaGreatZXWorldOk01
namespace Go.Proofs.YtgcinolbkllkkaaGreat
open Go.ChangeShapes Go.WideShapes Go.ChangeAt Go.RowKit
set_option linter.unusedSimpArgs false
def UCells (w : World) (b o : Nat) (u : M1.Upd) : Prop := w.cell? ⟨b, o, none⟩ = some (.int .i64 u.dr) ∧ w.cell? ⟨b, o + 1, none⟩ = some (.int .i64 u.dn) ∧ w.cell? ⟨b, o + 2, none⟩ = some (.int .i64 u.sw) ∧ w.cell? ⟨b, o + 3, none⟩ = some (.int .i64 u.sc) ∧ w.cell? ⟨b, o + 4, none⟩ = some (.int .i64 u.sr) ∧ w.cell? ⟨b, o + 5, none⟩ = some (.int .i64 u.k) ∧ w.cell? ⟨b, o + 6, none⟩ = some (.int .i64 u.tr) ∧ w.cell? ⟨b, o + 7, none⟩ = some (.int .i64 u.id) ∧ w.cell? ⟨b, o + 8, none⟩ = some (.int .i64 u.pa) ∧ w.cell? ⟨b, o + 9, none⟩ = some (.string u.s) ∧ w.cell? ⟨b, o + 10, none⟩ = some (.int .i64 u.st) ∧ w.cell? ⟨b, o + 11, none⟩ = some (.int .i64 u.en) ∧ w.cell? ⟨b, o + 12, none⟩ = some (.int .i64 u.lv)

theorem UCells.below {w w' : World} {b o : Nat} {u : M1.Upd} (h : UCells w b o u) (hb : Below w.heap.size w w') (hl : b < w.heap.size) : UCells w' b o u := by
 obtain ⟨c0, c1, c2, c3, c4, c5, c6, c7, c8, c9, c10, c11, c12⟩ := h
 exact ⟨(hb.cell (p := ⟨b, o, none⟩) hl).trans c0, (hb.cell (p := ⟨b, o + 1, none⟩) hl).trans c1, (hb.cell (p := ⟨b, o + 2, none⟩) hl).trans c2, (hb.cell (p := ⟨b, o + 3, none⟩) hl).trans c3, (hb.cell (p := ⟨b, o + 4, none⟩) hl).trans c4, (hb.cell (p := ⟨b, o + 5, none⟩) hl).trans c5, (hb.cell (p := ⟨b, o + 6, none⟩) hl).trans c6, (hb.cell (p := ⟨b, o + 7, none⟩) hl).trans c7, (hb.cell (p := ⟨b, o + 8, none⟩) hl).trans c8, (hb.cell (p := ⟨b, o + 9, none⟩) hl).trans c9, (hb.cell (p := ⟨b, o + 10, none⟩) hl).trans c10, (hb.cell (p := ⟨b, o + 11, none⟩) hl).trans c11, (hb.cell (p := ⟨b, o + 12, none⟩) hl).trans c12⟩

structure IsUpds (w : World) (av : Option Addr) (len cap : Nat) (us : List M1.Upd) : Prop where
 hlen : us.length = len
 hcap : len ≤ cap
 hmost : cap ≤ maxLen
 htxt : ∀ i, i < len → (M1.up us i).s.size ≤ maxLen
 hlies : len = 0 ∨ ∃ b off, av = some ⟨b, off, none⟩ ∧ b < w.heap.size ∧ ∀ i, i < len → UCells w b (off + i * 13) (M1.up us i)

theorem IsUpds.below {w w' : World} {av : Option Addr} {len cap : Nat} {us : List M1.Upd} (h : IsUpds w av len cap us) (hb : Below w.heap.size w w') : IsUpds w' av len cap us :=
 ⟨h.hlen, h.hcap, h.hmost, h.htxt, h.hlies.imp id fun ⟨b, off, e, hlt, hc⟩ => ⟨b, off, e, Nat.lt_of_lt_of_le hlt hb.size, fun i hi => (hc i hi).below hb hlt⟩⟩

def ucs (u : M1.Upd) : List Value := [.int .i64 u.dr, .int .i64 u.dn, .int .i64 u.sw, .int .i64 u.sc, .int .i64 u.sr, .int .i64 u.k, .int .i64 u.tr, .int .i64 u.id, .int .i64 u.pa, .string u.s, .int .i64 u.st, .int .i64 u.en, .int .i64 u.lv]

def ucell (us : List M1.Upd) (o : Nat) : Value := (ucs (M1.up us (o / 13))).getD (o % 13) undef

theorem ucell_at (us : List M1.Upd) (k j : Nat) (h : j < 13) : ucell us (k * 13 + j) = (ucs (M1.up us k)).getD j undef := by
 unfold ucell
 rw [show (k * 13 + j) / 13 = k from by omega, show (k * 13 + j) % 13 = j from by omega]

theorem isUpds_of_row {w : World} {g n cap : Nat} {us : List M1.Upd} (hl : us.length = n) (hc : n ≤ cap) (hm : cap ≤ maxLen) (ht : ∀ i, i < n → (M1.up us i).s.size ≤ maxLen) (h : RowAt w g (n * 13) (ucell us)) : IsUpds w (some ⟨g, 0, none⟩) n cap us := by
 refine ⟨hl, hc, hm, ht, Or.inr ⟨g, 0, rfl, h.lt, fun i hi => ?_⟩⟩
 have key : ∀ j, j < 13 → w.cell? ⟨g, i * 13 + j, none⟩ = some ((ucs (M1.up us i)).getD j undef) := fun j hj => by
  rw [h.cell (by omega), ucell_at us i j hj]
 unfold UCells
 rw [Nat.zero_add]
 exact ⟨key 0 (by omega), key 1 (by omega), key 2 (by omega), key 3 (by omega), key 4 (by omega), key 5 (by omega), key 6 (by omega), key 7 (by omega), key 8 (by omega), key 9 (by omega), key 10 (by omega), key 11 (by omega), key 12 (by omega)⟩

end Go.Proofs.YtgcinolbkllkkaaGreat

namespace Go.Proofs.YtgcinolbkllkkaaGreat
open Go.ChangeShapes Go.WideShapes Go.ChangeAt Go.RowKit
theorem toStamp_any (a b c : Int) (w : World) :
  Calls Tryz.prog 105 #[.agg #[.int .i64 a, .int .i64 b, .int .i64 c]] w fun e w' => e = .returned (.agg #[.int .i64 a, .int .i64 b, .int .i64 c]) ∧ Below w.heap.size w w' := by
 go_enter Tryz.func105, Tryz.ntmps105
 go_wp2
 refine bodyPost_ret (v := .agg #[.int .i64 a, .int .i64 b, .int .i64 c]) (by simp [results, Tryz.results105, go_sem]) rfl ⟨rfl, ?_⟩
 repeat (first | (with_reducible exact Below.refl _ _) | ((with_reducible refine Below.setCell ?_ ?_ _); rotate_left; (focus (first | omega | (simp; done) | (simp; omega)))) | ((with_reducible refine Below.alloc ?_ ?_ _); rotate_left; (focus (first | omega | (simp; done) | (simp; omega)))) | (with_reducible refine Below.drew ?_))

theorem eqStamp_same (a b c : Int) (w : World) :
  Calls Tryz.prog 108 #[.agg #[.int .i64 a, .int .i64 b, .int .i64 c], .agg #[.int .i64 a, .int .i64 b, .int .i64 c]] w fun e w' => e = .returned (.bool true) ∧ Below w.heap.size w w' := by
 go_enter Tryz.func108, Tryz.ntmps108
 go_wp2
 go_ret
 refine ⟨rfl, ?_⟩
 repeat (first | (with_reducible exact Below.refl _ _) | ((with_reducible refine Below.setCell ?_ ?_ _); rotate_left; (focus (first | omega | (simp; done) | (simp; omega)))) | ((with_reducible refine Below.alloc ?_ ?_ _); rotate_left; (focus (first | omega | (simp; done) | (simp; omega)))) | (with_reducible refine Below.drew ?_))

end Go.Proofs.YtgcinolbkllkkaaGreat
