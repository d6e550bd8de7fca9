/-
  Texts of one proof, joined: Join, Mark, Bytes, VecDraw, RdrAll.
-/
import Derived.Test.YtdpeopmbboogaaaZLongest11
import Derived.Test.YtdpeopmbboogaaaZLongest00
import Derived.Test.YtdpeopmbboogaaaZLongest01
import Derived.Test.YtdpeopmbboogaaaZLongest04
import Derived.Test.YtdpeopmbboogaaaZLongest14
import Derived.Test.YtdpeopmbboogaaaZLongest18
namespace Go.Proofs.Ytdpeopmbboogaaa
open Go.ChangeShapes Go.WideShapes Go.ChangeAt Go.RowKit

end Go.Proofs.Ytdpeopmbboogaaa

namespace Go.Proofs.Ytdpeopmbboogaaa
open Go.ChangeShapes Go.WideShapes Go.ChangeAt Go.RowKit

/-- A vector whose row, if it has one, is a block of lo .. hi - 1; f: its cells. -/
def MV (w : World) (av : Option Addr) (n cap lo hi : Nat) (f : Nat → Value) : Prop :=
  n ≤ cap ∧ cap ≤ maxLen ∧ ((n = 0 ∧ av = none) ∨ ∃ g, av = some ⟨g, 0, none⟩ ∧ lo ≤ g ∧ g < hi ∧ RowAt w g (n * 2) f)
/-- Nothing but that vector's own row has turned. -/
def Mk (av : Option Addr) (w w' : World) : Prop := (av = none → Below w.heap.size w w') ∧ ∀ g, av = some ⟨g, 0, none⟩ → Gr g w w'

theorem mk_none {w w' : World} (h : Below w.heap.size w w') : Mk none w w' := ⟨fun _ => h, fun _ e => by cases e⟩
theorem mk_some {w w' : World} {g : Nat} (h : Gr g w w') : Mk (some ⟨g, 0, none⟩) w w' := ⟨(fun e => by cases e), (fun g2 e => by injection e with e; injection e with e _ _; subst e; exact h)⟩
theorem MV.below {w w' : World} {av : Option Addr} {n cap lo hi : Nat} {f : Nat → Value} (h : MV w av n cap lo hi f) (hb : Below w.heap.size w w') : MV w' av n cap lo hi f :=
  ⟨h.1, h.2.1, h.2.2.imp id fun ⟨g, e, h1, h2, r⟩ => ⟨g, e, h1, h2, r.below hb⟩⟩
theorem MV.mk {w w' : World} {av bv : Option Addr} {n cap lo hi m cm lo2 hi2 : Nat} {f f2 : Nat → Value} (h : MV w av n cap lo hi f) (h2 : MV w bv m cm lo2 hi2 f2) (hm : Mk bv w w') (hd : hi ≤ lo2 ∨ hi2 ≤ lo) : MV w' av n cap lo hi f := by
  refine ⟨h.1, h.2.1, ?_⟩
  rcases h.2.2 with h0 | ⟨g, e, h3, h4, r⟩
  · exact Or.inl h0
  · refine Or.inr ⟨g, e, h3, h4, ?_⟩
    rcases h2.2.2 with ⟨_, h0⟩ | ⟨g2, e2, h5, h6, _⟩
    · exact r.below (hm.1 h0)
    · exact r.gr (hm.2 g2 e2) (by omega)
theorem Mk.below {w w' : World} {bv : Option Addr} {m cm lo2 hi2 B : Nat} {f2 : Nat → Value} (h2 : MV w bv m cm lo2 hi2 f2) (hm : Mk bv w w') (hB : B ≤ w.heap.size) (hlo : B ≤ lo2) : Below B w w' := by
  rcases h2.2.2 with ⟨_, h0⟩ | ⟨g2, e2, h5, h6, _⟩
  · exact (hm.1 h0).mono hB
  · exact gr_to (hm.2 g2 e2) hB (by omega)
theorem MV.vec {w : World} {av : Option Addr} {n cap lo hi : Nat} {ds : List (Int × Int)} (h : MV w av n cap lo hi (dcell ds)) (hl : ds.length = n) : IsVec w av n cap ds := by
  rcases h.2.2 with ⟨h0, _⟩ | ⟨g, rfl, _, _, r⟩
  · exact ⟨hl, h.1, h.2.1, Or.inl h0⟩
  · exact isVec_of_row hl h.1 h.2.1 r
theorem MV.of_owns {w : World} {base : Nat} {e : TypeId} {v : Value} {ds : List (Int × Int)} (h : w.ownsRow base e 2 v ds.length (dcs ds)) : ∃ av cap, v = .slice av ds.length cap ∧ MV w av ds.length cap base w.heap.size (dcell ds) := by
  obtain ⟨av, cap, hv, hi, hr⟩ := owns_vec h
  exact ⟨av, cap, hv, hi.hcap, hi.hmost, hr.imp (fun h => ⟨h.2, h.1⟩) fun ⟨g, e, hb, r⟩ => ⟨g, e, hb, r.lt, r⟩⟩

end Go.Proofs.Ytdpeopmbboogaaa

namespace Go.Proofs.Ytdpeopmbboogaaa
open Go.ChangeShapes Go.WideShapes Go.ChangeAt Go.RowKit
set_option maxRecDepth 100000

/-- A slice of bytes. -/
structure IsBytes (w : World) (av : Option Addr) (len cap : Nat) : Prop where
  hc : len ≤ cap
  hm : cap ≤ maxLen
  lies : len = 0 ∨ ∃ b off, av = some ⟨b, off, none⟩ ∧ b < w.heap.size ∧ ∀ i, i < len → ∃ z, w.cell? ⟨b, off + i, none⟩ = some (.int .u8 z) ∧ 0 ≤ z ∧ z ≤ 255

theorem IsBytes.below {w w' : World} {av : Option Addr} {len cap : Nat} (h : IsBytes w av len cap) {B : Nat} (hB : w.heap.size ≤ B) (hb : Below B w w') : IsBytes w' av len cap :=
  ⟨h.hc, h.hm, h.lies.imp id fun ⟨b, off, e, hlt, hz⟩ => ⟨b, off, e, Nat.lt_of_lt_of_le hlt hb.size, fun i hi => let ⟨z, h2, h3⟩ := hz i hi; ⟨z, (hb.cell (p := ⟨b, off + i, none⟩) (by show b < B; omega)).trans h2, h3⟩⟩⟩

theorem open_bytes {H : Type} {enc : TypeId × Value → H} {W : World} {fuel len cap : Nat} {a : Option Addr} {x : DataW H × List MemPlace}
    (hf : DataW.trod enc Try.prog W 0 (fun _ => true) true fuel 22 (Value.slice a len cap).cells.toList = some x) : IsBytes W a len cap := by
  rcases open_ints Try.underlying22 Try.underlying5 (by kernel_rfl) hf with ⟨hcs, _⟩ | ⟨y, l, c, zs, hcs, _, hl, hm, hz, _, hcell, hwz⟩
  · simp [Value.cells] at hcs
    obtain ⟨rfl, rfl, rfl⟩ := hcs
    exact ⟨Nat.le_refl _, Nat.zero_le _, Or.inl rfl⟩
  · simp [Value.cells] at hcs
    obtain ⟨rfl, rfl, rfl⟩ := hcs
    have hz' : zs.length = cap := by simpa using hz
    refine ⟨hl, hm, ?_⟩
    rcases Nat.eq_zero_or_pos len with h0 | h0
    · exact Or.inl h0
    · obtain ⟨b, off, rfl, hc⟩ := ints_at hcell (by omega)
      refine Or.inr ⟨b, off, rfl, World.block_lt_of_cell? W _ (hc 0 (by omega)), fun i hi => ⟨zs.getD i 0, hc i (by omega), ?_⟩⟩
      have hw := bounds_u8 (hwz (zs.getD i 0) (by simp [List.getD, show i < zs.length from by omega]))
      exact hw

theorem l1Open_any (av : Option Addr) (len cap : Nat) (w : World) (h : IsBytes w av len cap) :
    Calls Try.prog 52 #[.slice av len cap] w fun e w' => e = .returned (.pointer (some ⟨w.heap.size, 0, none⟩)) ∧ Rdr w' w.heap.size av len cap ∧ Below w.heap.size w w' := by
  go_enter Try.func52, Try.ntmps52
  go_wp2
  go_ret
  have hr := RowAt.new w #[.slice av len cap, .int .i64 0] 109
  refine ⟨rfl, ⟨by simp, hr.cell (o := 0) (by simp), ⟨0, Nat.zero_le _, hr.cell (o := 1) (by simp)⟩, hr.free (o := 0) (by simp), hr.free (o := 1) (by simp), h.hc, h.hm, ?_⟩, (Below.refl _ _).alloc (Nat.le_refl _) _⟩
  have hb : Below w.heap.size w (w.alloc (.cells #[.slice av len cap, .int .i64 0] 109)) := (Below.refl _ _).alloc (Nat.le_refl _) _
  exact h.lies.imp id fun ⟨b, off, e, hlt, hz⟩ => ⟨b, off, e, by simp; omega, by omega, fun i hi => let ⟨z, h2, h3⟩ := hz i hi; ⟨z, (hb.cell (p := ⟨b, off + i, none⟩) hlt).trans h2, h3⟩⟩
end Go.Proofs.Ytdpeopmbboogaaa

namespace Go.Proofs.Ytdpeopmbboogaaa
open Go.ChangeShapes Go.WideShapes Go.ChangeAt Go.RowKit
set_option linter.unusedSimpArgs false

theorem gr_grown {g : Nat} {w a b : World} {row : Option Nat} (h : Gr g w a) (hg : a.grownBy b row) (hrow : ∀ k, row = some k → w.heap.size ≤ k) : Gr g w b :=
  ⟨hg.os.trans h.os, hg.tape.trans h.tape, hg.output.trans h.output, Nat.le_trans h.size hg.size, fun i hi hn => (hg.block i (Nat.lt_of_lt_of_le hi h.size) (fun e => by have := hrow i e.symm; omega)).trans (h.block i hi hn)⟩
theorem grown_cell {w a b : World} {row : Option Nat} (hs : w.heap.size ≤ a.heap.size) (hg : a.grownBy b row) (hrow : ∀ k, row = some k → w.heap.size ≤ k) {k : Nat} (hk : k < w.heap.size) (o : Nat) : b.cell? ⟨k, o, none⟩ = a.cell? ⟨k, o, none⟩ ∧ b.frozen? ⟨k, o, none⟩ = a.frozen? ⟨k, o, none⟩ :=
  have e := hg.block k (Nat.lt_of_lt_of_le hk hs) (fun e => by have := hrow k e.symm; omega)
  ⟨World.cell?_of_block (w := a) e, World.frozen?_of_block (w := a) e⟩
theorem Rdr.grown {w a b : World} {row : Option Nat} {g : Nat} {av : Option Addr} {len cap : Nat} (h0 : Rdr w g av len cap) (h : Rdr a g av len cap) (hs : w.heap.size ≤ a.heap.size) (hg : a.grownBy b row) (hrow : ∀ k, row = some k → w.heap.size ≤ k) : Rdr b g av len cap := by
  have key := fun k (hk : k < w.heap.size) o => grown_cell hs hg hrow hk o
  obtain ⟨p, hp, h1⟩ := h.c1
  refine ⟨Nat.lt_of_lt_of_le h.lt hg.size, (key g h0.lt 0).1.trans h.c0, ⟨p, hp, (key g h0.lt 1).1.trans h1⟩, (key g h0.lt 0).2.trans h.f0, (key g h0.lt 1).2.trans h.f1, h.hc, h.hm, ?_⟩
  rcases h0.lies with e0 | ⟨b0, off0, e, hlt, hn, _⟩
  · exact Or.inl e0
  · rcases h.lies with e1 | ⟨b1, off1, e', _, _, hz⟩
    · exact Or.inl e1
    · rw [e] at e'
      injection e' with e'
      injection e' with e1 e2 _
      subst e1 e2
      exact Or.inr ⟨b0, off0, e, by have := hg.size; omega, hn, fun i hi => let ⟨z, h2, h3⟩ := hz i hi; ⟨z, (key b0 hlt _).1.trans h2, h3⟩⟩
theorem owns_gr {w w' : World} {base g : Nat} {e : TypeId} {size n : Nat} {v : Value} {xs : List Value} (h : w.ownsRow base e size v n xs) (hg : Gr g w w') (hb : g < base) : w'.ownsRow base e size v n xs := by
  obtain ⟨h1, h2⟩ := h
  refine ⟨h1, h2.imp id fun ⟨k, cap, cur, hv, hk, hh, r⟩ => ⟨k, cap, cur, hv, hk, ?_, r⟩⟩
  have hlt : k < w.heap.size := by
    rcases Nat.lt_or_ge k w.heap.size with h | h
    · exact h
    · rw [Array.getElem?_eq_none h] at hh; cases hh
  rw [hg.block k hlt (fun e => by injection e with e; omega)]; exact hh
theorem MV.gr {w w' : World} {av : Option Addr} {n cap lo hi g : Nat} {f : Nat → Value} (h : MV w av n cap lo hi f) (hg : Gr g w w') (hb : g < lo) : MV w' av n cap lo hi f :=
  ⟨h.1, h.2.1, h.2.2.imp id fun ⟨k, e, h1, h2, r⟩ => ⟨k, e, h1, h2, r.gr hg (by omega)⟩⟩
theorem MV.wide {w : World} {av : Option Addr} {n cap lo hi lo' hi' : Nat} {f : Nat → Value} (h : MV w av n cap lo hi f) (h1 : lo' ≤ lo) (h2 : hi ≤ hi') : MV w av n cap lo' hi' f :=
  ⟨h.1, h.2.1, h.2.2.imp id fun ⟨k, e, h3, h4, r⟩ => ⟨k, e, by omega, by omega, r⟩⟩

end Go.Proofs.Ytdpeopmbboogaaa

namespace Go.Proofs.Ytdpeopmbboogaaa
open Go.ChangeShapes Go.WideShapes Go.ChangeAt Go.RowKit
set_option linter.unusedSimpArgs false
set_option linter.unusedVariables false

/-- Updates whose texts are short. -/
def Short (us : List M1.Upd) : Prop := ∀ x ∈ us, x.s.size ≤ 1000
theorem Short.at {us : List M1.Upd} (h : Short us) {i : Nat} (hi : i < us.length) : (M1.up us i).s.size ≤ 1000 := by
  have : M1.up us i = us[i] := by simp [M1.up, List.getD, hi]
  rw [this]; exact h _ (List.getElem_mem hi)
theorem Short.max {us : List M1.Upd} (h : Short us) : ∀ i, i < us.length → (M1.up us i).s.size ≤ maxLen := fun i hi => by
  have := h.at hi
  unfold maxLen; omega
/-- Updates of the regions 1 .. 3. -/
def R3 (us : List M1.Upd) : Prop := ∀ x ∈ us, 1 ≤ x.dr ∧ x.dr ≤ 3
theorem R3.at {us : List M1.Upd} (h : R3 us) {i : Nat} (hi : i < us.length) : 1 ≤ (M1.up us i).dr ∧ (M1.up us i).dr ≤ 3 := by
  have : M1.up us i = us[i] := by simp [M1.up, List.getD, hi]
  rw [this]; exact h _ (List.getElem_mem hi)
theorem R3.put {us ns : List M1.Upd} {u : M1.Upd} (h : R3 us) (hu : 1 ≤ u.dr ∧ u.dr ≤ 3) (hp : M1.PutR us u ns) : R3 ns := fun x hx => by
  rcases hp.mem x hx with h1 | rfl
  · exact h x h1
  · exact hu
theorem Short.put {us ns : List M1.Upd} {u : M1.Upd} (h : Short us) (hu : u.s.size ≤ 1000) (hp : M1.PutR us u ns) : Short ns := fun x hx => by
  rcases hp.mem x hx with h1 | rfl
  · exact h x h1
  · exact hu
theorem MU.gr {w w' : World} {av : Option Addr} {n cap lo hi g : Nat} {f : Nat → Value} (h : MU w av n cap lo hi f) (hg : Gr g w w') (hb : g < lo) : MU w' av n cap lo hi f :=
  ⟨h.1, h.2.1, h.2.2.imp id fun ⟨k, e, h1, h2, r⟩ => ⟨k, e, h1, h2, r.gr hg (by omega)⟩⟩
theorem MU.wide {w : World} {av : Option Addr} {n cap lo hi lo' hi' : Nat} {f : Nat → Value} (h : MU w av n cap lo hi f) (h1 : lo' ≤ lo) (h2 : hi ≤ hi') : MU w av n cap lo' hi' f :=
  ⟨h.1, h.2.1, h.2.2.imp id fun ⟨k, e, h3, h4, r⟩ => ⟨k, e, by omega, by omega, r⟩⟩
theorem MU.far {w : World} {av : Option Addr} {n cap lo hi : Nat} {f : Nat → Value} (h : MU w av n cap lo hi f) {p : Addr} (hp : ∀ q, av = some q → ¬ q.block = p.block) (v : Value) : MU (w.setCell p v) av n cap lo hi f :=
  ⟨h.1, h.2.1, h.2.2.imp id fun ⟨k, e, h3, h4, r⟩ => ⟨k, e, h3, h4, r.far (fun e2 => hp _ e (by rw [e2])) v⟩⟩

/-- What a round of 'all' holds: the list so far, the four times, the reader. -/
structure AllR (w wr : World) (g : Nat) (av : Option Addr) (len cap : Nat) (bv : Option Addr) (c : Nat) (us : List M1.Upd) : Prop where
  mu : MU wr bv us.length c w.heap.size wr.heap.size (ucell us)
  off : ∀ q, bv = some q → ¬ q.block = w.heap.size + 1
  sh : Short us
  r3 : R3 us
  row : ∃ l : Nat → Int, RowAt wr (w.heap.size + 1) 4 (fun o => .int .i64 (l o))
  rd : Rdr wr g av len cap
  gr : Gr g w wr
  sz : w.heap.size + 2 ≤ wr.heap.size

theorem AllR.grow {w wr w' : World} {g : Nat} {av : Option Addr} {len cap : Nat} {bv : Option Addr} {c : Nat} {us : List M1.Upd} (h : AllR w wr g av len cap bv c us) (hg : g < w.heap.size) (hR : Rdr w' g av len cap) (hG : Gr g wr w') : AllR w w' g av len cap bv c us :=
  ⟨(h.mu.gr hG hg).wide (Nat.le_refl _) hG.size, h.off, h.sh, h.r3, let ⟨l, r⟩ := h.row; ⟨l, r.gr hG (by omega)⟩, hR, gr_trans h.gr hG, Nat.le_trans h.sz hG.size⟩
theorem AllR.below {w wr w' : World} {g : Nat} {av : Option Addr} {len cap : Nat} {bv : Option Addr} {c : Nat} {us : List M1.Upd} (h : AllR w wr g av len cap bv c us) (hg : g < w.heap.size) (hb : Below wr.heap.size wr w') : AllR w w' g av len cap bv c us :=
  h.grow hg (h.rd.below hb) (gr_below hb)
theorem AllR.upds {w wr : World} {g : Nat} {av : Option Addr} {len cap : Nat} {bv : Option Addr} {c : Nat} {us : List M1.Upd} (h : AllR w wr g av len cap bv c us) : IsUpds wr bv us.length c us := h.mu.upds rfl h.sh.max
theorem AllR.set {w wr : World} {g : Nat} {av : Option Addr} {len cap : Nat} {bv : Option Addr} {c : Nat} {us : List M1.Upd} (h : AllR w wr g av len cap bv c us) (h0 : Rdr w g av len cap) {p : Nat} (hp : w.heap.size + 2 ≤ p) (hbv : ∀ q, bv = some q → ¬ q.block = p) (o : Nat) (v : Value) : AllR w (wr.setCell ⟨p, o, none⟩ v) g av len cap bv c us :=
  ⟨by have := h.mu.far (p := ⟨p, o, none⟩) hbv v; simpa [World.setCell] using this, h.off, h.sh, h.r3, let ⟨l, r⟩ := h.row; ⟨l, r.far (by show p ≠ _; omega) v⟩, h.rd.far (by have := h0.lt; show p ≠ g; omega) (h0.old (by show _ ≤ p; omega)) _, gr_new h.gr _ (by show _ ≤ p; omega) _, by have := h.sz; simpa [World.setCell] using this⟩

theorem AllR.setRow {w wr : World} {g : Nat} {av : Option Addr} {len cap : Nat} {bv : Option Addr} {c : Nat} {us : List M1.Upd} (h : AllR w wr g av len cap bv c us) (h0 : Rdr w g av len cap) {o : Nat} (ho : o < 4) (v : Int) : AllR w (wr.setCell ⟨w.heap.size + 1, o, none⟩ (.int .i64 v)) g av len cap bv c us :=
  ⟨by have := h.mu.far (p := ⟨w.heap.size + 1, o, none⟩) h.off (.int .i64 v); simpa [World.setCell] using this, h.off, h.sh, h.r3, let ⟨l, r⟩ := h.row; ⟨fun x => if x = o then v else l x, (r.set ho (.int .i64 v)).same fun x hx => by by_cases e : x = o <;> simp [e]⟩, h.rd.far (by have := h0.lt; show w.heap.size + 1 ≠ g; omega) (h0.old (by show _ ≤ w.heap.size + 1; omega)) _, gr_new h.gr _ (by show _ ≤ w.heap.size + 1; omega) _, by have := h.sz; simpa [World.setCell] using this⟩
theorem AllR.lt {w wr : World} {g : Nat} {av : Option Addr} {len cap : Nat} {bv : Option Addr} {c : Nat} {us : List M1.Upd} (h : AllR w wr g av len cap bv c us) : ∀ q, bv = some q → q.block < wr.heap.size := fun q e => by
  rcases h.mu.2.2 with ⟨_, e2⟩ | ⟨k, e2, _, h2, _⟩
  · rw [e] at e2; cases e2
  · rw [e] at e2; injection e2 with e2; rw [e2]; exact h2

end Go.Proofs.Ytdpeopmbboogaaa
