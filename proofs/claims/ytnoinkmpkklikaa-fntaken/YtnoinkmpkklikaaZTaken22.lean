/-
  Texts of one proof, joined: ToStamp, Upd2, ToUpd, ToUpdS, MarkU, OwnU.
-/
import Derived.Test.YtnoinkmpkklikaaZTaken04
import Derived.Test.YtnoinkmpkklikaaZTaken06
import Derived.Test.YtnoinkmpkklikaaZTaken09
import Derived.Test.YtnoinkmpkklikaaZTaken00
import Derived.Laws.BytesArg
import Derived.Test.YtnoinkmpkklikaaZTaken17
import Derived.Deep.AppendLies
namespace Go.Proofs.Ytnoinkmpkklikaa
open Go.ChangeShapes Go.WideShapes Go.ChangeAt Go.RowKit

end Go.Proofs.Ytnoinkmpkklikaa

namespace Go.Proofs.Ytnoinkmpkklikaa
open Go.ChangeShapes Go.WideShapes Go.ChangeAt Go.RowKit

end Go.Proofs.Ytnoinkmpkklikaa

namespace Go.Proofs.Ytnoinkmpkklikaa
open Go.ChangeShapes Go.WideShapes Go.ChangeAt Go.RowKit
set_option linter.unusedSimpArgs false

end Go.Proofs.Ytnoinkmpkklikaa

namespace Go.Proofs.Ytnoinkmpkklikaa
open Go.ChangeShapes Go.WideShapes Go.ChangeAt Go.RowKit
set_option linter.unusedSimpArgs false

theorem infoUpd0 : (Try.prog.info? 51).map (fun i => (i.zero, i.size, i.bytes)) = some (some (.agg #[.int .i64 0, .int .i64 0, .int .i64 0, .int .i64 0, .int .i64 0, .int .i64 0, .int .i64 0, .int .i64 0, .int .i64 0, .string ByteArray.empty, .int .i64 0, .int .i64 0, .int .i64 0]), 13, 112) := by kernel_rfl
theorem infoUpd : ∃ i, Try.prog.info? 51 = some i ∧ i.zero = some (.agg #[.int .i64 0, .int .i64 0, .int .i64 0, .int .i64 0, .int .i64 0, .int .i64 0, .int .i64 0, .int .i64 0, .int .i64 0, .string ByteArray.empty, .int .i64 0, .int .i64 0, .int .i64 0]) ∧ i.size = 13 ∧ i.bytes = 112 := by
  have h := infoUpd0
  cases e : Try.prog.info? 51 with
  | none => rw [e] at h; cases h
  | some i => rw [e] at h; simp at h; exact ⟨i, rfl, h.1, h.2.1, h.2.2⟩

end Go.Proofs.Ytnoinkmpkklikaa

namespace M1
open Go
/-- The text of a mark: its digits. -/
def mtF : Nat → Int → ByteArray → ByteArray
  | 0, _, acc => acc
  | f + 1, k, acc => if 0 < k then mtF f (k / 10) (strOfNums [48 + k % 10] ++ acc) else acc
theorem mtF_zero : ∀ (f : Nat) (acc : ByteArray), mtF f 0 acc = acc
  | 0, _ => rfl
  | f + 1, acc => by show (if (0 : Int) < 0 then _ else acc) = acc; rw [if_neg (by omega)]
theorem mtF_step (f : Nat) (k : Int) (acc : ByteArray) (h : 0 < k) : mtF (f + 1) k acc = mtF f (k / 10) (strOfNums [48 + k % 10] ++ acc) := by
  show (if 0 < k then _ else acc) = _; rw [if_pos h]
def mtext (k : Int) : ByteArray := if k ≤ 0 then ⟨#[109, 48]⟩ else ⟨#[109]⟩ ++ mtF 20 k ⟨#[]⟩
theorem strOfNums_one (z : Int) : (strOfNums [z]).size = 1 := rfl
theorem mtF_size : ∀ (f : Nat) (k : Int) (acc : ByteArray), (mtF f k acc).size ≤ acc.size + f
  | 0, _, acc => Nat.le_refl _
  | f + 1, k, acc => by
    by_cases h : 0 < k
    · rw [mtF_step f k acc h]
      have := mtF_size f (k / 10) (strOfNums [48 + k % 10] ++ acc)
      rw [ByteArray.size_append, strOfNums_one] at this
      omega
    · show (if 0 < k then _ else acc).size ≤ _
      rw [if_neg h]; omega
theorem mtext_size (k : Int) : (mtext k).size ≤ 30 := by
  unfold mtext
  split
  · decide
  · rw [ByteArray.size_append]
    have := mtF_size 20 k ⟨#[]⟩
    have e1 : (ByteArray.mk #[109]).size = 1 := rfl
    have e2 : (ByteArray.mk #[]).size = 0 := rfl
    omega
end M1
namespace Go.Proofs.Ytnoinkmpkklikaa
open Go.ChangeShapes Go.WideShapes Go.ChangeAt Go.RowKit
set_option linter.unusedSimpArgs false
set_option linter.unusedVariables false

/-- The cells of a row of updates that are marked from k on. -/
def mcell (k : Int) (o : Nat) : Value := if o % 13 = 9 then .string (M1.mtext (k + o)) else .int .i64 (k + o)
theorem mcell_int (k : Int) (o : Nat) (h : ¬ o % 13 = 9) : mcell k o = .int .i64 (k + o) := if_neg h
theorem mcell_str (k : Int) (o : Nat) (h : o % 13 = 9) : mcell k o = .string (M1.mtext (k + o)) := if_pos h

end Go.Proofs.Ytnoinkmpkklikaa

namespace Go.Proofs.Ytnoinkmpkklikaa
open Go.ChangeShapes Go.WideShapes Go.ChangeAt Go.RowKit
set_option linter.unusedSimpArgs false
set_option linter.unusedVariables false

/-- The cells of a list of updates. -/
def ucL (us : List M1.Upd) : List Value := us.flatMap ucs
theorem ucL_snoc (us : List M1.Upd) (u : M1.Upd) : ucL (us ++ [u]) = ucL us ++ ucs u := by simp [ucL]
theorem ucs_len (u : M1.Upd) : (ucs u).length = 13 := rfl
theorem ucL_len : ∀ us : List M1.Upd, (ucL us).length = us.length * 13
  | [] => rfl
  | d :: r => by
    have := ucL_len r
    simp only [ucL, List.flatMap_cons, List.length_append, ucs_len, List.length_cons] at this ⊢
    omega
theorem ucL_get : ∀ (us : List M1.Upd) (o : Nat), o < us.length * 13 → (ucL us).getD o undef = ucell us o
  | [], o, h => by simp at h
  | d :: r, o, h => by
    have e0 : ucL (d :: r) = ucs d ++ ucL r := rfl
    by_cases hlt : o < 13
    · have e1 : (ucL (d :: r)).getD o undef = (ucs d).getD o undef := by
        rw [e0]; simp [List.getD, List.getElem?_append_left (show o < (ucs d).length by rw [ucs_len]; exact hlt)]
      rw [e1]
      unfold ucell
      rw [show o / 13 = 0 from by omega, show o % 13 = o from by omega]
      rfl
    · obtain ⟨q, rfl⟩ : ∃ q, o = 13 + q := ⟨o - 13, by omega⟩
      have ih := ucL_get r q (by simp at h; omega)
      have e1 : (ucL (d :: r)).getD (13 + q) undef = (ucL r).getD q undef := by
        rw [e0]; simp [List.getD, List.getElem?_append_right (show (ucs d).length ≤ 13 + q by rw [ucs_len]; omega), ucs_len]
      have e2 : ucell (d :: r) (13 + q) = ucell r q := by
        unfold ucell
        rw [show (13 + q) / 13 = q / 13 + 1 from by omega, show (13 + q) % 13 = q % 13 from by omega]
        rfl
      rw [e1, e2, ih]

/-- Updates whose row, if they have one, is a block of lo .. hi - 1; f: its cells. -/
def MU (w : World) (av : Option Addr) (n cap lo hi : Nat) (f : Nat → Value) : Prop :=
  n ≤ cap ∧ cap ≤ maxLen ∧ ((n = 0 ∧ av = none) ∨ ∃ g, av = some ⟨g, 0, none⟩ ∧ lo ≤ g ∧ g < hi ∧ RowAt w g (n * 13) f)
/-- Nothing but that row has turned. -/
def MkU (av : Option Addr) (w w' : World) : Prop := (av = none → Below w.heap.size w w') ∧ ∀ g, av = some ⟨g, 0, none⟩ → Gr g w w'
theorem mku_none {w w' : World} (h : Below w.heap.size w w') : MkU none w w' := ⟨fun _ => h, fun _ e => by cases e⟩
theorem mku_some {w w' : World} {g : Nat} (h : Gr g w w') : MkU (some ⟨g, 0, none⟩) w w' := ⟨(fun e => by cases e), (fun g2 e => by injection e with e; injection e with e _ _; subst e; exact h)⟩
theorem MU.below {w w' : World} {av : Option Addr} {n cap lo hi : Nat} {f : Nat → Value} (h : MU w av n cap lo hi f) (hb : Below w.heap.size w w') : MU w' av n cap lo hi f :=
  ⟨h.1, h.2.1, h.2.2.imp id fun ⟨g, e, h1, h2, r⟩ => ⟨g, e, h1, h2, r.below hb⟩⟩
theorem MU.off {w w' : World} {av : Option Addr} {n cap lo hi g : Nat} {f : Nat → Value} (h : MU w av n cap lo hi f) (hg : Gr g w w') (hb : g < lo ∨ hi ≤ g) : MU w' av n cap lo hi f :=
  ⟨h.1, h.2.1, h.2.2.imp id fun ⟨k, e, h1, h2, r⟩ => ⟨k, e, h1, h2, r.gr hg (by omega)⟩⟩
theorem MU.mk {w w' : World} {av bv : Option Addr} {n cap lo hi m cm lo2 hi2 : Nat} {f f2 : Nat → Value} (h : MU w av n cap lo hi f) (h2 : MU w bv m cm lo2 hi2 f2) (hm : MkU bv w w') (hd : hi ≤ lo2 ∨ hi2 ≤ lo) : MU w' av n cap lo hi f := by
  rcases h2.2.2 with ⟨_, h0⟩ | ⟨g2, e2, h5, h6, _⟩
  · exact h.below (hm.1 h0)
  · exact h.off (hm.2 g2 e2) (by omega)
theorem MkU.below {w w' : World} {bv : Option Addr} {m cm lo2 hi2 B : Nat} {f2 : Nat → Value} (h2 : MU w bv m cm lo2 hi2 f2) (hm : MkU bv w w') (hB : B ≤ w.heap.size) (hlo : B ≤ lo2) : Below B w w' := by
  rcases h2.2.2 with ⟨_, h0⟩ | ⟨g2, e2, h5, h6, _⟩
  · exact (hm.1 h0).mono hB
  · exact gr_to (hm.2 g2 e2) hB (by omega)
theorem MU.upds {w : World} {av : Option Addr} {n cap lo hi : Nat} {us : List M1.Upd} (h : MU w av n cap lo hi (ucell us)) (hl : us.length = n) (ht : ∀ i, i < n → (M1.up us i).s.size ≤ maxLen) : IsUpds w av n cap us := by
  rcases h.2.2 with ⟨h0, _⟩ | ⟨g, rfl, _, _, r⟩
  · exact ⟨hl, h.1, h.2.1, ht, Or.inl h0⟩
  · exact isUpds_of_row hl h.1 h.2.1 ht r
theorem MU.of_owns {w : World} {base : Nat} {e : TypeId} {v : Value} {us : List M1.Upd} (h : w.ownsRow base e 13 v us.length (ucL us)) : ∃ av cap, v = .slice av us.length cap ∧ MU w av us.length cap base w.heap.size (ucell us) := by
  have h0 := h
  obtain ⟨h1, h2⟩ := h
  rcases h2 with ⟨rfl, h3⟩ | ⟨g, cap, cur, rfl, hg, hh, hn, hm, hs, ht⟩
  · exact ⟨none, 0, by rw [h3], by omega, by unfold maxLen; omega, Or.inl ⟨h3, rfl⟩⟩
  · have hr := (RowAt.of_owns h0).same fun o ho => ucL_get us o ho
    exact ⟨some ⟨g, 0, none⟩, cap, rfl, hn, hm, Or.inr ⟨g, rfl, hg, hr.lt, hr⟩⟩
theorem ownsU_snoc {w : World} {base : Nat} {e : TypeId} {v : Value} {us : List M1.Upd} {u : M1.Upd} (h : w.ownsRow base e 13 v (us.length + 1) (ucL us ++ [.int .i64 u.dr, .int .i64 u.dn, .int .i64 u.sw, .int .i64 u.sc, .int .i64 u.sr, .int .i64 u.k, .int .i64 u.tr, .int .i64 u.id, .int .i64 u.pa, .string u.s, .int .i64 u.st, .int .i64 u.en, .int .i64 u.lv])) : w.ownsRow base e 13 v (us ++ [u]).length (ucL (us ++ [u])) := by
  rw [ucL_snoc]; simpa [ucs] using h
theorem ownsU_nil (w : World) (base : Nat) (e : TypeId) : w.ownsRow base e 13 (.slice none 0 0) ([] : List M1.Upd).length (ucL []) := ⟨rfl, Or.inl ⟨rfl, rfl⟩⟩
theorem ownsU_empty (w : World) (e : TypeId) : (w.alloc (.cells #[] e)).ownsRow w.heap.size e 13 (.slice (some ⟨w.heap.size, 0, none⟩) 0 0) ([] : List M1.Upd).length (ucL []) := by
  refine ⟨rfl, Or.inr ⟨w.heap.size, 0, #[], rfl, Nat.le_refl _, ?_, Nat.le_refl _, by unfold maxLen; omega, rfl, rfl⟩⟩
  show (w.heap.push (.cells #[] e))[w.heap.size]? = _
  simp

theorem news13 (w : World) (x0 x1 x2 x3 x4 x5 x6 x7 x8 x9 x10 x11 x12 : Value) (t : TypeId) : ∀ j u, [x0, x1, x2, x3, x4, x5, x6, x7, x8, x9, x10, x11, x12][j]? = some u → (w.alloc (.cells #[x0, x1, x2, x3, x4, x5, x6, x7, x8, x9, x10, x11, x12] t)).cell? ((⟨w.heap.size, 0, none⟩ : Addr).add j) = some u := by
  intro j u hu
  match j, hu with
  | 0, hu => simp at hu; subst hu; simp [Addr.add]
  | 1, hu => simp at hu; subst hu; simp [Addr.add]
  | 2, hu => simp at hu; subst hu; simp [Addr.add]
  | 3, hu => simp at hu; subst hu; simp [Addr.add]
  | 4, hu => simp at hu; subst hu; simp [Addr.add]
  | 5, hu => simp at hu; subst hu; simp [Addr.add]
  | 6, hu => simp at hu; subst hu; simp [Addr.add]
  | 7, hu => simp at hu; subst hu; simp [Addr.add]
  | 8, hu => simp at hu; subst hu; simp [Addr.add]
  | 9, hu => simp at hu; subst hu; simp [Addr.add]
  | 10, hu => simp at hu; subst hu; simp [Addr.add]
  | 11, hu => simp at hu; subst hu; simp [Addr.add]
  | 12, hu => simp at hu; subst hu; simp [Addr.add]
  | j + 13, hu => simp at hu
theorem one13 (u : M1.Upd) : ∀ v ∈ ucs u, v.oneCell' = true := by
  intro v hv
  simp [ucs] at hv
  rcases hv with rfl | rfl | rfl | rfl | rfl | rfl | rfl | rfl | rfl | rfl | rfl | rfl | rfl <;> rfl

end Go.Proofs.Ytnoinkmpkklikaa
