/-
  Texts of one proof, joined: RdrAll, SinceI, RdrSome.
-/
import Derived.Test.YtccendmoeelniaaGreatDoorZFSameOps25
import Derived.Test.YtccendmoeelniaaGreatDoorZFSameOps01
import Derived.Test.YtccendmoeelniaaGreatDoorZFSameOps37
import Derived.Test.YtccendmoeelniaaGreatDoorZFSameOps11
import Derived.Test.YtccendmoeelniaaGreatDoorZFSameOps45
import Derived.Test.YtccendmoeelniaaGreatDoorZFSameOps12
import Derived.Test.YtccendmoeelniaaGreatDoorZFSameOps03
import Derived.Test.YtccendmoeelniaaGreatDoorZFSameOps21
import Derived.Test.YtccendmoeelniaaGreatDoorZFSameOps16
import Derived.Test.YtccendmoeelniaaGreatDoorZFSameOps08
namespace Go.Proofs.YtccendmoeelniaaGreatDoor
open Go.ChangeShapes Go.WideShapes Go.ChangeAt Go.RowKit
set_option linter.unusedSimpArgs false
set_option linter.unusedVariables false
def Short (us : List M1.Upd) : Prop := ∀ x ∈ us, x.s.size ≤ 1000

theorem Short.at {us : List M1.Upd} (h : Short us) {i : Nat} (hi : i < us.length) : (M1.up us i).s.size ≤ 1000 := by
 have : M1.up us i = us[i] := by simp [M1.up, List.getD, hi]
 rw [this]; exact h _ (List.getElem_mem hi)

theorem Short.max {us : List M1.Upd} (h : Short us) : ∀ i, i < us.length → (M1.up us i).s.size ≤ maxLen := fun i hi => by
 have := h.at hi
 unfold maxLen; omega

def R3 (us : List M1.Upd) : Prop := ∀ x ∈ us, 1 ≤ x.dr ∧ x.dr ≤ 3

theorem R3.at {us : List M1.Upd} (h : R3 us) {i : Nat} (hi : i < us.length) : 1 ≤ (M1.up us i).dr ∧ (M1.up us i).dr ≤ 3 := by
 have : M1.up us i = us[i] := by simp [M1.up, List.getD, hi]
 rw [this]; exact h _ (List.getElem_mem hi)

theorem R3.put {us ns : List M1.Upd} {u : M1.Upd} (h : R3 us) (hu : 1 ≤ u.dr ∧ u.dr ≤ 3) (hp : M1.PutR us u ns) : R3 ns := fun x hx => by
 rcases hp.mem x hx with h1 | rfl
 ·exact h x h1
 ·exact hu

theorem Short.put {us ns : List M1.Upd} {u : M1.Upd} (h : Short us) (hu : u.s.size ≤ 1000) (hp : M1.PutR us u ns) : Short ns := fun x hx => by
 rcases hp.mem x hx with h1 | rfl
 ·exact h x h1
 ·exact hu

theorem MU.gr {w w' : World} {av : Option Addr} {n cap lo hi g : Nat} {f : Nat → Value} (h : MU w av n cap lo hi f) (hg : Gr g w w') (hb : g < lo) : MU w' av n cap lo hi f :=
 ⟨h.1, h.2.1, h.2.2.imp id fun ⟨k, e, h1, h2, r⟩ => ⟨k, e, h1, h2, r.gr hg (by omega)⟩⟩

theorem MU.wide {w : World} {av : Option Addr} {n cap lo hi lo' hi' : Nat} {f : Nat → Value} (h : MU w av n cap lo hi f) (h1 : lo' ≤ lo) (h2 : hi ≤ hi') : MU w av n cap lo' hi' f :=
 ⟨h.1, h.2.1, h.2.2.imp id fun ⟨k, e, h3, h4, r⟩ => ⟨k, e, by omega, by omega, r⟩⟩

theorem MU.far {w : World} {av : Option Addr} {n cap lo hi : Nat} {f : Nat → Value} (h : MU w av n cap lo hi f) {p : Addr} (hp : ∀ q, av = some q → ¬ q.block = p.block) (v : Value) : MU (w.setCell p v) av n cap lo hi f :=
 ⟨h.1, h.2.1, h.2.2.imp id fun ⟨k, e, h3, h4, r⟩ => ⟨k, e, h3, h4, r.far (fun e2 => hp _ e (by rw [e2])) v⟩⟩

theorem owns_grA {w w' : World} {base g : Nat} {e : TypeId} {size n : Nat} {v : Value} {xs : List Value} (h : w.ownsRow base e size v n xs) (hG : Gr g w w') (hg : g < base) : w'.ownsRow base e size v n xs :=
 ⟨h.1, h.2.imp id fun ⟨k, cap, cur, hv, hk, hh, r⟩ => ⟨k, cap, cur, hv, hk, by
  have hlt : k < w.heap.size := by
   rcases Nat.lt_or_ge k w.heap.size with h | h
   ·exact h
   ·rw [Array.getElem?_eq_none h] at hh; cases hh
  rw [hG.block k hlt (fun e => by injection e with e; omega)]; exact hh, r⟩⟩

theorem owns_far {w : World} {base : Nat} {e : TypeId} {size n cap : Nat} {av : Option Addr} {xs : List Value} (h : w.ownsRow base e size (.slice av n cap) n xs) {p : Addr} (hp : ∀ q, av = some q → ¬ q.block = p.block) (u : Value) : (w.setCell p u).ownsRow base e size (.slice av n cap) n xs :=
 ⟨h.1, h.2.imp id fun ⟨k, cp, cur, hv, hk, hh, r⟩ => ⟨k, cp, cur, hv, hk, by
  have : ¬ k = p.block := by
   injection hv with h1 _ _
   exact hp _ h1
  rw [Below.heap_setCell _ _ _ _ this]; exact hh, r⟩⟩

structure AllR (w wr : World) (g : Nat) (av : Option Addr) (len cap : Nat) (bv : Option Addr) (c : Nat) (us : List M1.Upd) : Prop where
 mu : MU wr bv us.length c w.heap.size wr.heap.size (ucell us)
 own : wr.ownsRow w.heap.size 38 13 (.slice bv us.length c) us.length (ucL us)
 off : ∀ q, bv = some q → ¬ q.block = w.heap.size + 1
 sh : Short us
 r3 : R3 us
 row : ∃ l : Nat → Int, RowAt wr (w.heap.size + 1) 4 (fun o => .int .i64 (l o))
 rd : Rdr wr g av len cap
 gr : Gr g w wr
 sz : w.heap.size + 2 ≤ wr.heap.size

theorem AllR.grow {w wr w' : World} {g : Nat} {av : Option Addr} {len cap : Nat} {bv : Option Addr} {c : Nat} {us : List M1.Upd} (h : AllR w wr g av len cap bv c us) (hg : g < w.heap.size) (hR : Rdr w' g av len cap) (hG : Gr g wr w') : AllR w w' g av len cap bv c us :=
 ⟨(h.mu.gr hG hg).wide (Nat.le_refl _) hG.size, owns_grA h.own hG hg, h.off, h.sh, h.r3, let ⟨l, r⟩ := h.row; ⟨l, r.gr hG (by omega)⟩, hR, gr_trans h.gr hG, Nat.le_trans h.sz hG.size⟩

theorem AllR.below {w wr w' : World} {g : Nat} {av : Option Addr} {len cap : Nat} {bv : Option Addr} {c : Nat} {us : List M1.Upd} (h : AllR w wr g av len cap bv c us) (hg : g < w.heap.size) (hb : Below wr.heap.size wr w') : AllR w w' g av len cap bv c us :=
 h.grow hg (h.rd.below hb) (gr_below hb)

theorem AllR.upds {w wr : World} {g : Nat} {av : Option Addr} {len cap : Nat} {bv : Option Addr} {c : Nat} {us : List M1.Upd} (h : AllR w wr g av len cap bv c us) : IsUpds wr bv us.length c us := h.mu.upds rfl h.sh.max

theorem AllR.set {w wr : World} {g : Nat} {av : Option Addr} {len cap : Nat} {bv : Option Addr} {c : Nat} {us : List M1.Upd} (h : AllR w wr g av len cap bv c us) (h0 : Rdr w g av len cap) {p : Nat} (hp : w.heap.size + 2 ≤ p) (hbv : ∀ q, bv = some q → ¬ q.block = p) (o : Nat) (v : Value) : AllR w (wr.setCell ⟨p, o, none⟩ v) g av len cap bv c us :=
 ⟨by have := h.mu.far (p := ⟨p, o, none⟩) hbv v; simpa [World.setCell] using this, owns_far h.own (p := ⟨p, o, none⟩) hbv v, h.off, h.sh, h.r3, let ⟨l, r⟩ := h.row; ⟨l, r.far (by show p ≠ _; omega) v⟩, h.rd.far (by have := h0.lt; show p ≠ g; omega) (h0.old (by show _ ≤ p; omega)) _, gr_new h.gr _ (by show _ ≤ p; omega) _, by have := h.sz; simpa [World.setCell] using this⟩

theorem AllR.setRow {w wr : World} {g : Nat} {av : Option Addr} {len cap : Nat} {bv : Option Addr} {c : Nat} {us : List M1.Upd} (h : AllR w wr g av len cap bv c us) (h0 : Rdr w g av len cap) {o : Nat} (ho : o < 4) (v : Int) : AllR w (wr.setCell ⟨w.heap.size + 1, o, none⟩ (.int .i64 v)) g av len cap bv c us :=
 ⟨by have := h.mu.far (p := ⟨w.heap.size + 1, o, none⟩) h.off (.int .i64 v); simpa [World.setCell] using this, owns_far h.own (p := ⟨w.heap.size + 1, o, none⟩) h.off _, h.off, h.sh, h.r3, let ⟨l, r⟩ := h.row; ⟨fun x => if x = o then v else l x, (r.set ho (.int .i64 v)).same fun x hx => by by_cases e : x = o <;> simp [e]⟩, h.rd.far (by have := h0.lt; show w.heap.size + 1 ≠ g; omega) (h0.old (by show _ ≤ w.heap.size + 1; omega)) _, gr_new h.gr _ (by show _ ≤ w.heap.size + 1; omega) _, by have := h.sz; simpa [World.setCell] using this⟩

theorem AllR.lt {w wr : World} {g : Nat} {av : Option Addr} {len cap : Nat} {bv : Option Addr} {c : Nat} {us : List M1.Upd} (h : AllR w wr g av len cap bv c us) : ∀ q, bv = some q → q.block < wr.heap.size := fun q e => by
 rcases h.mu.2.2 with ⟨_, e2⟩ | ⟨k, e2, _, h2, _⟩
 ·rw [e] at e2; cases e2
 ·rw [e] at e2; injection e2 with e2; rw [e2]; exact h2

end Go.Proofs.YtccendmoeelniaaGreatDoor

namespace Go.Proofs.YtccendmoeelniaaGreatDoor
open Go.ChangeShapes Go.WideShapes Go.ChangeAt Go.RowKit
set_option linter.unusedSimpArgs false
set_option linter.unusedVariables false
theorem RowAt.grown {a b : World} {g m : Nat} {f : Nat → Value} {row : Option Nat} (h : RowAt a g m f) (hg : a.grownBy b row) (hn : ∀ k, row = some k → ¬ k = g) : RowAt b g m f := by
 have e := hg.block g h.lt (fun e => hn g e.symm rfl)
 exact ⟨Nat.lt_of_lt_of_le h.lt hg.size, fun o ho => ⟨(World.cell?_of_block (w := a) e).trans (h.2 o ho).1, (World.frozen?_of_block (w := a) e).trans (h.2 o ho).2⟩⟩

theorem row5 (w : World) (a b c d e : Int) (t : TypeId) (f : Nat → Value) (h0 : f 0 = .int .i64 a) (h1 : f 1 = .int .i64 b) (h2 : f 2 = .int .i64 c) (h3 : f 3 = .int .i64 d) (h4 : f 4 = .int .i64 e) : RowAt (w.alloc (.cells #[.int .i64 a, .int .i64 b, .int .i64 c, .int .i64 d, .int .i64 e] t)) w.heap.size 5 f :=
 (RowAt.new w #[.int .i64 a, .int .i64 b, .int .i64 c, .int .i64 d, .int .i64 e] t).same fun o ho => by
  match o, ho with
  | 0, _ => exact h0.symm
  | 1, _ => exact h1.symm
  | 2, _ => exact h2.symm
  | 3, _ => exact h3.symm
  | 4, _ => exact h4.symm

end Go.Proofs.YtccendmoeelniaaGreatDoor

namespace Go.Proofs.YtccendmoeelniaaGreatDoor
open Go.ChangeShapes Go.WideShapes Go.ChangeAt Go.RowKit
set_option linter.unusedSimpArgs false
set_option linter.unusedVariables false
def cutf (a b c : Int) (o : Nat) : Int := if o = 1 then a else if o = 2 then b else if o = 3 then c else 0

theorem Short.snoc {us : List M1.Upd} {u : M1.Upd} (h : Short us) (hu : u.s.size ≤ 1000) : Short (us ++ [u]) := fun x hx => by
 rcases List.mem_append.1 hx with h1 | h1
 ·exact h x h1
 ·simp at h1; subst h1; exact hu

theorem R3.snoc {us : List M1.Upd} {u : M1.Upd} (h : R3 us) (hu : 1 ≤ u.dr ∧ u.dr ≤ 3) : R3 (us ++ [u]) := fun x hx => by
 rcases List.mem_append.1 hx with h1 | h1
 ·exact h x h1
 ·simp at h1; subst h1; exact hu

structure SomeR (w wr : World) (g : Nat) (av : Option Addr) (len cap pc : Nat) (a b c : Int) (gb cc : Nat) (ns : List M1.Upd) : Prop where
 own : wr.ownsRow w.heap.size 38 13 (.slice (some ⟨gb, 0, none⟩) ns.length cc) ns.length (ucL ns)
 off : ¬ gb = pc
 sh : Short ns
 r3 : R3 ns
 row : RowAt wr pc 4 (fun o => .int .i64 (cutf a b c o))
 rd : Rdr wr g av len cap
 gr : Gr g w wr

theorem SomeR.below {w wr w' : World} {g : Nat} {av : Option Addr} {len cap pc : Nat} {a b c : Int} {gb cc : Nat} {ns : List M1.Upd} (h : SomeR w wr g av len cap pc a b c gb cc ns) (hb : Below wr.heap.size wr w') : SomeR w w' g av len cap pc a b c gb cc ns :=
 ⟨owns_below h.own hb, h.off, h.sh, h.r3, h.row.below hb, h.rd.below hb, gr_trans h.gr (gr_below hb)⟩

end Go.Proofs.YtccendmoeelniaaGreatDoor
