/-
  The contract of the reader's all: a list of updates of few elements, with short texts.
-/
import Derived.Test.YtnchbndgdkhldaaZSpans08
import Derived.Test.YtnchbndgdkhldaaZSpans22
import Derived.Test.YtnchbndgdkhldaaZSpans27
import Derived.Test.YtnchbndgdkhldaaZSpans29
namespace Go.Proofs.Ytnchbndgdkhldaa
open Go.ChangeShapes Go.WideShapes Go.ChangeAt Go.RowKit
set_option linter.unusedSimpArgs false
set_option linter.unusedVariables false

/-- Updates whose texts are short. -/
def Short (us : List M1.Upd) : Prop := ∀ x ∈ us, x.s.size ≤ 1000
theorem Short.at {us : List M1.Upd} (h : Short us) {i : Nat} (hi : i < us.length) : (M1.up us i).s.size ≤ 1000 := by
  have : M1.up us i = us[i] := by simp [M1.up, List.getD, hi]
  rw [this]; exact h _ (List.getElem_mem hi)
theorem Short.max {us : List M1.Upd} (h : Short us) : ∀ i, i < us.length → (M1.up us i).s.size ≤ maxLen := fun i hi => by
  have := h.at hi
  unfold maxLen; omega
/-- Updates of the regions 1 .. 3. -/
def R3 (us : List M1.Upd) : Prop := ∀ x ∈ us, 1 ≤ x.dr ∧ x.dr ≤ 3
theorem R3.at {us : List M1.Upd} (h : R3 us) {i : Nat} (hi : i < us.length) : 1 ≤ (M1.up us i).dr ∧ (M1.up us i).dr ≤ 3 := by
  have : M1.up us i = us[i] := by simp [M1.up, List.getD, hi]
  rw [this]; exact h _ (List.getElem_mem hi)
theorem R3.put {us ns : List M1.Upd} {u : M1.Upd} (h : R3 us) (hu : 1 ≤ u.dr ∧ u.dr ≤ 3) (hp : M1.PutR us u ns) : R3 ns := fun x hx => by
  rcases hp.mem x hx with h1 | rfl
  · exact h x h1
  · exact hu
theorem Short.put {us ns : List M1.Upd} {u : M1.Upd} (h : Short us) (hu : u.s.size ≤ 1000) (hp : M1.PutR us u ns) : Short ns := fun x hx => by
  rcases hp.mem x hx with h1 | rfl
  · exact h x h1
  · exact hu
theorem MU.gr {w w' : World} {av : Option Addr} {n cap lo hi g : Nat} {f : Nat → Value} (h : MU w av n cap lo hi f) (hg : Gr g w w') (hb : g < lo) : MU w' av n cap lo hi f :=
  ⟨h.1, h.2.1, h.2.2.imp id fun ⟨k, e, h1, h2, r⟩ => ⟨k, e, h1, h2, r.gr hg (by omega)⟩⟩
theorem MU.wide {w : World} {av : Option Addr} {n cap lo hi lo' hi' : Nat} {f : Nat → Value} (h : MU w av n cap lo hi f) (h1 : lo' ≤ lo) (h2 : hi ≤ hi') : MU w av n cap lo' hi' f :=
  ⟨h.1, h.2.1, h.2.2.imp id fun ⟨k, e, h3, h4, r⟩ => ⟨k, e, by omega, by omega, r⟩⟩
theorem MU.far {w : World} {av : Option Addr} {n cap lo hi : Nat} {f : Nat → Value} (h : MU w av n cap lo hi f) {p : Addr} (hp : ∀ q, av = some q → ¬ q.block = p.block) (v : Value) : MU (w.setCell p v) av n cap lo hi f :=
  ⟨h.1, h.2.1, h.2.2.imp id fun ⟨k, e, h3, h4, r⟩ => ⟨k, e, h3, h4, r.far (fun e2 => hp _ e (by rw [e2])) v⟩⟩

/-- What a round of 'all' holds: the list so far, the four times, the reader. -/
structure AllR (w wr : World) (g : Nat) (av : Option Addr) (len cap : Nat) (bv : Option Addr) (c : Nat) (us : List M1.Upd) : Prop where
  mu : MU wr bv us.length c w.heap.size wr.heap.size (ucell us)
  off : ∀ q, bv = some q → ¬ q.block = w.heap.size + 1
  sh : Short us
  r3 : R3 us
  row : ∃ l : Nat → Int, RowAt wr (w.heap.size + 1) 4 (fun o => .int .i64 (l o))
  rd : Rdr wr g av len cap
  gr : Gr g w wr
  sz : w.heap.size + 2 ≤ wr.heap.size

theorem AllR.grow {w wr w' : World} {g : Nat} {av : Option Addr} {len cap : Nat} {bv : Option Addr} {c : Nat} {us : List M1.Upd} (h : AllR w wr g av len cap bv c us) (hg : g < w.heap.size) (hR : Rdr w' g av len cap) (hG : Gr g wr w') : AllR w w' g av len cap bv c us :=
  ⟨(h.mu.gr hG hg).wide (Nat.le_refl _) hG.size, h.off, h.sh, h.r3, let ⟨l, r⟩ := h.row; ⟨l, r.gr hG (by omega)⟩, hR, gr_trans h.gr hG, Nat.le_trans h.sz hG.size⟩
theorem AllR.below {w wr w' : World} {g : Nat} {av : Option Addr} {len cap : Nat} {bv : Option Addr} {c : Nat} {us : List M1.Upd} (h : AllR w wr g av len cap bv c us) (hg : g < w.heap.size) (hb : Below wr.heap.size wr w') : AllR w w' g av len cap bv c us :=
  h.grow hg (h.rd.below hb) (gr_below hb)
theorem AllR.upds {w wr : World} {g : Nat} {av : Option Addr} {len cap : Nat} {bv : Option Addr} {c : Nat} {us : List M1.Upd} (h : AllR w wr g av len cap bv c us) : IsUpds wr bv us.length c us := h.mu.upds rfl h.sh.max
theorem AllR.set {w wr : World} {g : Nat} {av : Option Addr} {len cap : Nat} {bv : Option Addr} {c : Nat} {us : List M1.Upd} (h : AllR w wr g av len cap bv c us) (h0 : Rdr w g av len cap) {p : Nat} (hp : w.heap.size + 2 ≤ p) (hbv : ∀ q, bv = some q → ¬ q.block = p) (o : Nat) (v : Value) : AllR w (wr.setCell ⟨p, o, none⟩ v) g av len cap bv c us :=
  ⟨by have := h.mu.far (p := ⟨p, o, none⟩) hbv v; simpa [World.setCell] using this, h.off, h.sh, h.r3, let ⟨l, r⟩ := h.row; ⟨l, r.far (by show p ≠ _; omega) v⟩, h.rd.far (by have := h0.lt; show p ≠ g; omega) (h0.old (by show _ ≤ p; omega)) _, gr_new h.gr _ (by show _ ≤ p; omega) _, by have := h.sz; simpa [World.setCell] using this⟩

theorem AllR.setRow {w wr : World} {g : Nat} {av : Option Addr} {len cap : Nat} {bv : Option Addr} {c : Nat} {us : List M1.Upd} (h : AllR w wr g av len cap bv c us) (h0 : Rdr w g av len cap) {o : Nat} (ho : o < 4) (v : Int) : AllR w (wr.setCell ⟨w.heap.size + 1, o, none⟩ (.int .i64 v)) g av len cap bv c us :=
  ⟨by have := h.mu.far (p := ⟨w.heap.size + 1, o, none⟩) h.off (.int .i64 v); simpa [World.setCell] using this, h.off, h.sh, h.r3, let ⟨l, r⟩ := h.row; ⟨fun x => if x = o then v else l x, (r.set ho (.int .i64 v)).same fun x hx => by by_cases e : x = o <;> simp [e]⟩, h.rd.far (by have := h0.lt; show w.heap.size + 1 ≠ g; omega) (h0.old (by show _ ≤ w.heap.size + 1; omega)) _, gr_new h.gr _ (by show _ ≤ w.heap.size + 1; omega) _, by have := h.sz; simpa [World.setCell] using this⟩
theorem AllR.lt {w wr : World} {g : Nat} {av : Option Addr} {len cap : Nat} {bv : Option Addr} {c : Nat} {us : List M1.Upd} (h : AllR w wr g av len cap bv c us) : ∀ q, bv = some q → q.block < wr.heap.size := fun q e => by
  rcases h.mu.2.2 with ⟨_, e2⟩ | ⟨k, e2, _, h2, _⟩
  · rw [e] at e2; cases e2
  · rw [e] at e2; injection e2 with e2; rw [e2]; exact h2

end Go.Proofs.Ytnchbndgdkhldaa
