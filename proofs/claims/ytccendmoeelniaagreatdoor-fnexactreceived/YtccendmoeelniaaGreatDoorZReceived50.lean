/-
  Texts of one proof, joined: Sn1, OpenSpan, OpenUpd, OpenUpds, OpenReg.
-/
import Derived.Test.YtccendmoeelniaaGreatDoorZReceived03
import Derived.Test.YtccendmoeelniaaGreatDoorRows
import Derived.Stop.LaidTwo
import Derived.LaidMore
import Derived.WalkKit
import Derived.ProofKit
import Derived.Deep.Strs
import Derived.Test.YtccendmoeelniaaGreatDoorZReceived06
import Derived.Deep.Slices
namespace Go.Proofs.YtccendmoeelniaaGreatDoor
open Go.ChangeShapes Go.WideShapes Go.ChangeAt Go.RowKit
set_option linter.unusedVariables false

theorem trodVars_len {H : Type} {enc : TypeId × Value → H} {P : Program} {W : World} {sp : Nat → Bool} : ∀ {ns : List String} {gs : List (DataW H)} {ps : List MemPlace}, DataW.TrodVars enc P W sp ns gs ps → gs.length = ns.length
  | [], [], _, _ => rfl
  | [], _ :: _, _, h => h.elim
  | _ :: _, [], _, h => h.elim
  | n :: ns, d :: ds, ps, h => by
    obtain ⟨_, _, _, _, _, _, _, _, _, _, hs, _⟩ := h
    simp [trodVars_len hs]
theorem list5 {A : Type} {l : List A} (h : l.length = 5) : ∃ a b c d e, l = [a, b, c, d, e] := by
  match l, h with
  | [a, b, c, d, e], _ => exact ⟨a, b, c, d, e, rfl⟩
/-- The list that the five laws' rows bear. -/
def LL : List (String × DataW Unit) := Rows.fnExactReceivedRow.laid
theorem hd_rt : (Tryz.prog.cutTypes.find? (·.1 == "internal/reflectlite.rtype")).map (·.2) = some 187 := by kernel_rfl
theorem hd_et : Tryz.prog.globalNamed "errors.errorType" = some 5 := by kernel_rfl
theorem hd_size : Tryz.prog.types.size = 258 := by kernel_rfl
theorem hd_one : ((List.range 258).filter fun t => Tryz.prog.rowNamed t [101, 114, 114, 111, 114]) = [82] := by kernel_rfl

theorem handle_of {W : World} (h : handlesMet Tryz.prog (LL.take 1) W) : W.cell? ⟨5, 0, none⟩ = some (.iface 187 (rt 82)) := by
  obtain ⟨name, u, ty, e1, e2, e3, e4, e5⟩ := h ("errors.errorType", Rows.laid_errors_errorType) (by exact List.mem_cons_self)
  have en : name = [101, 114, 114, 111, 114] := (Option.some.inj e1).symm
  subst en
  obtain rfl := Option.some.inj (hd_rt.symm.trans e2)
  have hm : ty ∈ (List.range 258).filter fun t => Tryz.prog.rowNamed t [101, 114, 114, 111, 114] := List.mem_filter.2 ⟨List.mem_range.2 (by rw [← hd_size]; exact e3), e4⟩
  rw [hd_one] at hm
  obtain rfl := List.mem_singleton.1 hm
  have hh : typeHandle Tryz.prog 82 = .pointer (some ⟨6, 82, none⟩) := by kernel_rfl
  rw [hh] at e5
  simpa using World.var?_cell hd_et e5 0
theorem hd_star : "*" ++ "errors.errorString" = "*errors.errorString" := by decide
theorem hd_row (u : TypeId) (h : Tryz.prog.typeName? 3 u = some "*errors.errorString") : u = 223 :=
  typeName_ptr_named (nm := "errors.errorString") (by rw [hd_star]; kernel_rfl) (by kernel_rfl) (by decide) u (by rw [hd_star]; exact h)
theorem hd_c1 : Tryz.prog.cellsOf 243 = 1 := by kernel_rfl
theorem hd_c2 : Tryz.prog.cellsOf 9 = 1 := by kernel_rfl
theorem hd_p : laidMetH Tryz.prog LL = fun W => laidMet Tryz.prog (LL.drop 1) W ∧ handlesMet Tryz.prog (LL.take 1) W := rfl
theorem ne_of {W : World} {a b : Addr} {s t : ByteArray} (ha : W.cell? a = some (.string s)) (hb : W.cell? b = some (.string t)) (h : ¬ s.data.toList = t.data.toList) : a ≠ b := fun e => by
  rw [e, hb] at ha
  injection ha with ha
  injection ha with ha
  exact h (by rw [ha])

set_option maxRecDepth 100000 in
theorem sens_of {W : World} (h : laidMetH Tryz.prog LL W) : ∃ s0 s1 s2 s3 s4, Sens W s0 s1 s2 s3 s4 := by
  have h' : laidMet Tryz.prog (LL.drop 1) W ∧ handlesMet Tryz.prog (LL.take 1) W := by rw [hd_p] at h; exact h
  have ct := handle_of h'.2
  have q1 := h'.1
  have q2 : laidMet Tryz.prog (LL.drop 3) W := q1.tail.tail
  have q3 : laidMet Tryz.prog (LL.drop 4) W := q2.tail
  obtain ⟨a0, a1, s0, s1, c0, c1, t0, t1, hv0, hv1, hc0, hs0, _, hc1, hs1, _, n01, hb0, hb1⟩ := laid_sentinels2 (P := Tryz.prog) (g0 := 0) (g1 := 1) (tp := 223) q1 (by kernel_rfl) (by kernel_rfl) (by kernel_rfl) (by kernel_rfl) Tryz.underlying82 hd_row Tryz.underlying223 Tryz.underlying243 rfl rfl Tryz.underlying9 hd_c1 hd_c2
  obtain ⟨a4, a3, s4, s3, c4, c3, t4, t3, hv4, hv3, hc4, hs4, _, hc3, hs3, _, n43, hb4, hb3⟩ := laid_sentinels2 (P := Tryz.prog) (g0 := 4) (g1 := 3) (tp := 223) q2 (by kernel_rfl) (by kernel_rfl) (by kernel_rfl) (by kernel_rfl) Tryz.underlying82 hd_row Tryz.underlying223 Tryz.underlying243 rfl rfl Tryz.underlying9 hd_c1 hd_c2
  obtain ⟨_, a2, _, s2, _, c2, _, t2, _, hv2, _, _, _, hc2, hs2, _, _, _, hb2⟩ := laid_sentinels2 (P := Tryz.prog) (g0 := 3) (g1 := 2) (tp := 223) q3 (by kernel_rfl) (by kernel_rfl) (by kernel_rfl) (by kernel_rfl) Tryz.underlying82 hd_row Tryz.underlying223 Tryz.underlying243 rfl rfl Tryz.underlying9 hd_c1 hd_c2
  have v0 : W.cell? ⟨0, 0, none⟩ = some (es a0) := by simpa using World.var?_cell (P := Tryz.prog) (g := 0) (by kernel_rfl) hv0 0
  have v1 : W.cell? ⟨1, 0, none⟩ = some (es a1) := by simpa using World.var?_cell (P := Tryz.prog) (g := 1) (by kernel_rfl) hv1 0
  have v2 : W.cell? ⟨2, 0, none⟩ = some (es a2) := by simpa using World.var?_cell (P := Tryz.prog) (g := 2) (by kernel_rfl) hv2 0
  have v3 : W.cell? ⟨3, 0, none⟩ = some (es a3) := by simpa using World.var?_cell (P := Tryz.prog) (g := 3) (by kernel_rfl) hv3 0
  have v4 : W.cell? ⟨4, 0, none⟩ = some (es a4) := by simpa using World.var?_cell (P := Tryz.prog) (g := 4) (by kernel_rfl) hv4 0
  have g5 : 5 < W.heap.size := by
    rcases Nat.lt_or_ge 5 W.heap.size with q | q
    · exact q
    · have : W.heap[5]? = none := Array.getElem?_eq_none q
      simp [World.cell?, this] at ct
  exact ⟨a0, a1, a2, a3, a4, v0, v1, v2, v3, v4, ct, ⟨_, _, hb0⟩, ⟨_, _, hb1⟩, ⟨_, _, hb2⟩, ⟨_, _, hb3⟩, ⟨_, _, hb4⟩, n01, ne_of hc0 hc2 (by rw [hs0, hs2]; decide), ne_of hc0 hc3 (by rw [hs0, hs3]; decide), ne_of hc0 hc4 (by rw [hs0, hs4]; decide), ne_of hc1 hc2 (by rw [hs1, hs2]; decide), ne_of hc1 hc3 (by rw [hs1, hs3]; decide), ne_of hc1 hc4 (by rw [hs1, hs4]; decide), ne_of hc2 hc3 (by rw [hs2, hs3]; decide), ne_of hc2 hc4 (by rw [hs2, hs4]; decide), ne_of hc3 hc4 (by rw [hs3, hs4]; decide), g5⟩
end Go.Proofs.YtccendmoeelniaaGreatDoor

namespace Go.Proofs.YtccendmoeelniaaGreatDoor
open Go.ChangeShapes Go.WideShapes Go.ChangeAt Go.RowKit
set_option maxRecDepth 100000

theorem span_cells {H : Type} {enc : TypeId × Value → H} {W : World} {base fuel : Nat} {spare : Nat → Bool} {held : Bool} {cs : List Value} {x : DataW H × List MemPlace}
    (h : DataW.trod enc Tryz.prog W base spare held fuel 59 cs = some x) :
    ∃ (a b : Int) (s : ByteArray) (c d : Int), cs = [.int .i64 a, .int .i64 b, .string s, .int .i64 c, .int .i64 d] ∧ s.size ≤ maxLen := by
  obtain ⟨xs, n, _, _, hl, hlen, hf⟩ := DataW.trod_struct Tryz.underlying59 h
  have hl5 : cs.length = 5 := hl.trans (by kernel_rfl)
  have hi : Tryz.prog.cellsOf 2 = 1 := by kernel_rfl
  have hs : Tryz.prog.cellsOf 9 = 1 := by kernel_rfl
  match xs, hlen, cs, hl5 with
  | [y0, y1, y2, y3, y4], _, [c0, c1, c2, c3, c4], _ =>
    have f0 := hf 0 _ rfl
    have f1 := hf 1 _ rfl
    have f2 := hf 2 _ rfl
    have f3 := hf 3 _ rfl
    have f4 := hf 4 _ rfl
    simp [hi, hs] at f0 f1 f2 f3 f4
    obtain ⟨a, e0, _, _⟩ := DataW.trod_int Tryz.underlying2 f0
    obtain ⟨b, e1, _, _⟩ := DataW.trod_int Tryz.underlying2 f1
    obtain ⟨s, e2, _, hs⟩ := DataW.trod_string Tryz.underlying9 f2
    obtain ⟨c, e3, _, _⟩ := DataW.trod_int Tryz.underlying2 f3
    obtain ⟨d, e4, _, _⟩ := DataW.trod_int Tryz.underlying2 f4
    simp at e0 e1 e2 e3 e4
    exact ⟨a, b, s, c, d, by rw [e0, e1, e2, e3, e4], hs⟩

theorem open_span {H : Type} {enc : TypeId × Value → H} {W : World} {base b0 : Nat} {spare : Nat → Bool} {held : Bool} {r : Reach} {v : Value} {d : DataW H} {p : List MemPlace}
    (hv : Value.okWide Tryz.prog W r b0 59 v) (h : DataW.Trod enc Tryz.prog W base spare held 59 v d p) :
    ∃ (a b : Int) (s : ByteArray) (c e : Int), v = .agg #[.int .i64 a, .int .i64 b, .string s, .int .i64 c, .int .i64 e] ∧ s.size ≤ maxLen := by
  obtain ⟨cs, rfl, _⟩ := okWide_struct Tryz.underlying59 hv
  obtain ⟨fuel, hf⟩ := h
  obtain ⟨a, b, s, c, e, hc, hs⟩ := span_cells hf
  refine ⟨a, b, s, c, e, ?_, hs⟩
  have : cs.toList = [.int .i64 a, .int .i64 b, .string s, .int .i64 c, .int .i64 e] := by simpa [Value.cells] using hc
  rw [← this]
end Go.Proofs.YtccendmoeelniaaGreatDoor

namespace Go.Proofs.YtccendmoeelniaaGreatDoor
open Go.ChangeShapes Go.WideShapes Go.ChangeAt Go.RowKit
set_option maxRecDepth 100000

theorem update_cells {H : Type} {enc : TypeId × Value → H} {W : World} {base fuel : Nat} {spare : Nat → Bool} {held : Bool} {cs : List Value} {x : DataW H × List MemPlace}
    (h : DataW.trod enc Tryz.prog W base spare held fuel 116 cs = some x) :
    ∃ (dr dn sw sc sr k tr id pa : Int) (s : ByteArray) (st en lv : Int), cs = [.int .i64 dr, .int .i64 dn, .int .i64 sw, .int .i64 sc, .int .i64 sr, .int .i64 k, .int .i64 tr, .int .i64 id, .int .i64 pa, .string s, .int .i64 st, .int .i64 en, .int .i64 lv] ∧ s.size ≤ maxLen := by
  obtain ⟨xs, n, _, _, hl, hlen, hf⟩ := DataW.trod_struct Tryz.underlying116 h
  have hl13 : cs.length = 13 := hl.trans (by kernel_rfl)
  have hi : Tryz.prog.cellsOf 2 = 1 := by kernel_rfl
  have hd : Tryz.prog.cellsOf 114 = 2 := by kernel_rfl
  have ht : Tryz.prog.cellsOf 55 = 3 := by kernel_rfl
  have hp : Tryz.prog.cellsOf 59 = 5 := by kernel_rfl
  match xs, hlen, cs, hl13 with
  | [y0, y1, y2, y3, y4, y5], _, [c0, c1, c2, c3, c4, c5, c6, c7, c8, c9, ca, cb, cc], _ =>
    have f0 := hf 0 _ rfl
    have f1 := hf 1 _ rfl
    have f2 := hf 2 _ rfl
    have f3 := hf 3 _ rfl
    have f4 := hf 4 _ rfl
    have f5 := hf 5 _ rfl
    simp [hi, hd, ht, hp] at f0 f1 f2 f3 f4 f5
    obtain ⟨z0, z1, n0, _, _, g0, g1⟩ := trod_struct2 Tryz.underlying114 f0
    obtain ⟨z2, z3, z4, n1, _, _, g2, g3, g4⟩ := Deep.trod_struct3 Tryz.underlying55 f1
    simp [hi] at g0 g1 g2 g3 g4
    obtain ⟨dr, e0, _, _⟩ := DataW.trod_int Tryz.underlying2 g0
    obtain ⟨dn, e1, _, _⟩ := DataW.trod_int Tryz.underlying2 g1
    obtain ⟨sw, e2, _, _⟩ := DataW.trod_int Tryz.underlying2 g2
    obtain ⟨sc, e3, _, _⟩ := DataW.trod_int Tryz.underlying2 g3
    obtain ⟨sr, e4, _, _⟩ := DataW.trod_int Tryz.underlying2 g4
    obtain ⟨k, e5, _, _⟩ := DataW.trod_int Tryz.underlying2 f2
    obtain ⟨tr, e6, _, _⟩ := DataW.trod_int Tryz.underlying2 f3
    obtain ⟨id, pa, s, st, en, e7, hs⟩ := span_cells f4
    obtain ⟨lv, e8, _, _⟩ := DataW.trod_int Tryz.underlying2 f5
    simp at e0 e1 e2 e3 e4 e5 e6 e7 e8
    obtain ⟨q0, q1, q2, q3, q4⟩ := e7
    exact ⟨dr, dn, sw, sc, sr, k, tr, id, pa, s, st, en, lv, by rw [e0, e1, e2, e3, e4, e5, e6, q0, q1, q2, q3, q4, e8], hs⟩

theorem open_update {H : Type} {enc : TypeId × Value → H} {W : World} {base b0 : Nat} {spare : Nat → Bool} {held : Bool} {r : Reach} {v : Value} {d : DataW H} {p : List MemPlace}
    (hv : Value.okWide Tryz.prog W r b0 116 v) (h : DataW.Trod enc Tryz.prog W base spare held 116 v d p) :
    ∃ (dr dn sw sc sr k tr id pa st en lv : Int) (s : ByteArray), v = .agg #[.int .i64 dr, .int .i64 dn, .int .i64 sw, .int .i64 sc, .int .i64 sr, .int .i64 k, .int .i64 tr, .int .i64 id, .int .i64 pa, .string s, .int .i64 st, .int .i64 en, .int .i64 lv] ∧ s.size ≤ maxLen := by
  obtain ⟨cs, rfl, _⟩ := okWide_struct Tryz.underlying116 hv
  obtain ⟨fuel, hf⟩ := h
  obtain ⟨dr, dn, sw, sc, sr, k, tr, id, pa, s, st, en, lv, hc, hs⟩ := update_cells hf
  refine ⟨dr, dn, sw, sc, sr, k, tr, id, pa, st, en, lv, s, ?_, hs⟩
  have : cs.toList = [.int .i64 dr, .int .i64 dn, .int .i64 sw, .int .i64 sc, .int .i64 sr, .int .i64 k, .int .i64 tr, .int .i64 id, .int .i64 pa, .string s, .int .i64 st, .int .i64 en, .int .i64 lv] := by simpa [Value.cells] using hc
  rw [← this]
end Go.Proofs.YtccendmoeelniaaGreatDoor

namespace Go.Proofs.YtccendmoeelniaaGreatDoor
open Go.ChangeShapes Go.WideShapes Go.ChangeAt Go.RowKit
set_option maxRecDepth 100000

theorem open_updates {H : Type} {enc : TypeId × Value → H} {W : World} {fuel len cap : Nat} {a : Option Addr} {x : DataW H × List MemPlace}
    (hf : DataW.trod enc Tryz.prog W 0 (fun _ => true) true fuel 56 (Value.slice a len cap).cells.toList = some x) :
    ∃ us, IsUpds W a len cap us := by
  rcases Deep.open_slice Tryz.underlying56 hf with ⟨hcs, _⟩ | ⟨c, l, k, m, n, D, Pl, hcs, _, hl, hm, hmm, hx, hall⟩
  · simp [Value.cells] at hcs
    obtain ⟨rfl, rfl, rfl⟩ := hcs
    exact ⟨[], ⟨rfl, Nat.le_refl _, Nat.zero_le _, fun i hi => absurd hi (Nat.not_lt_zero _), Or.inl rfl⟩⟩
  · simp [Value.cells] at hcs
    obtain ⟨rfl, rfl, rfl⟩ := hcs
    have hmm' : m = cap := by simpa using hmm
    subst hmm'
    have hce : Tryz.prog.cellsOf 116 = 13 := by kernel_rfl
    have each : ∀ i, i < len → ∃ u : M1.Upd, u.s.size ≤ maxLen ∧ ∀ j v, (ucs u)[j]? = some v → W.cell? (c.add (i * 13 + j)) = some v := fun i hi => by
      obtain ⟨cs', h1, h2⟩ := hall i (by omega)
      rw [hce] at h1
      obtain ⟨_, hlen, hcell⟩ := World.cells?_some h1
      obtain ⟨dr, dn, sw, sc, sr, k, tr, id, pa, s, st, en, lv, e, hs⟩ := update_cells h2
      subst e
      refine ⟨⟨dr, dn, sw, sc, sr, k, tr, id, pa, s, st, en, lv⟩, hs, fun j v hv => ?_⟩
      have hj : j < 13 := by
        have := (List.getElem?_eq_some_iff.1 hv).1
        simpa [ucs] using this
      have := hcell j (by simpa using hj)
      rw [Deep.add_add] at this
      rw [this]
      exact hv
    obtain ⟨f, hf⟩ : ∃ f : Nat → M1.Upd, ∀ i, i < len → (f i).s.size ≤ maxLen ∧ ∀ j v, (ucs (f i))[j]? = some v → W.cell? (c.add (i * 13 + j)) = some v := by
      refine ⟨fun i => if h : i < len then Classical.choose (each i h) else M1.zeroU, fun i hi => ?_⟩
      simp only [dif_pos hi]
      exact Classical.choose_spec (each i hi)
    have hup : ∀ i, i < len → M1.up ((List.range len).map f) i = f i := fun i hi => by simp [M1.up, List.getD, hi]
    refine ⟨(List.range len).map f, ⟨by simp, hl, hm, fun i hi => by rw [hup i hi]; exact (hf i hi).1, ?_⟩⟩
    rcases Nat.eq_zero_or_pos len with h0 | h0
    · exact Or.inl h0
    · right
      obtain ⟨b, off, spot⟩ := c
      have h00 := (hf 0 h0).2 0 _ rfl
      have hspot : spot = none := by simpa [Addr.add] using World.cell?_spot h00
      subst hspot
      refine ⟨b, off, rfl, ?_, fun i hi => ?_⟩
      · exact World.block_lt_of_cell? W _ (by simpa [Addr.add] using h00)
      · rw [hup i hi]
        have key : ∀ j v, (ucs (f i))[j]? = some v → W.cell? ⟨b, off + i * 13 + j, none⟩ = some v := fun j v hv => by
          rw [Nat.add_assoc, ← Go.WideShapes.add_plain]
          exact (hf i hi).2 j v hv
        exact ⟨key 0 _ rfl, key 1 _ rfl, key 2 _ rfl, key 3 _ rfl, key 4 _ rfl, key 5 _ rfl, key 6 _ rfl, key 7 _ rfl, key 8 _ rfl, key 9 _ rfl, key 10 _ rfl, key 11 _ rfl, key 12 _ rfl⟩
end Go.Proofs.YtccendmoeelniaaGreatDoor

namespace Go.Proofs.YtccendmoeelniaaGreatDoor
open Go.ChangeShapes Go.WideShapes Go.ChangeAt Go.RowKit
set_option maxRecDepth 100000

theorem region_cells {H : Type} {enc : TypeId × Value → H} {W : World} {fuel : Nat} {cs : List Value} {x : DataW H × List MemPlace}
    (h : DataW.trod enc Tryz.prog W 0 (fun _ => true) true fuel 58 cs = some x) :
    ∃ (id a b c : Int) (av : Option Addr) (n cap : Nat) (us : List M1.Upd), cs = [.int .i64 id, .int .i64 a, .int .i64 b, .int .i64 c, .slice av n cap] ∧ IsUpds W av n cap us := by
  obtain ⟨xs, n, _, _, hl, hlen, hf⟩ := DataW.trod_struct Tryz.underlying58 h
  have hl5 : cs.length = 5 := hl.trans (by kernel_rfl)
  have hi : Tryz.prog.cellsOf 2 = 1 := by kernel_rfl
  have ht : Tryz.prog.cellsOf 55 = 3 := by kernel_rfl
  have hu : Tryz.prog.cellsOf 56 = 1 := by kernel_rfl
  match xs, hlen, cs, hl5 with
  | [y0, y1, y2], _, [c0, c1, c2, c3, c4], _ =>
    have f0 := hf 0 _ rfl
    have f1 := hf 1 _ rfl
    have f2 := hf 2 _ rfl
    simp [hi, ht, hu] at f0 f1 f2
    obtain ⟨z2, z3, z4, n1, _, _, g2, g3, g4⟩ := Deep.trod_struct3 Tryz.underlying55 f1
    simp [hi] at g2 g3 g4
    obtain ⟨id, e0, _, _⟩ := DataW.trod_int Tryz.underlying2 f0
    obtain ⟨a, e1, _, _⟩ := DataW.trod_int Tryz.underlying2 g2
    obtain ⟨b, e2, _, _⟩ := DataW.trod_int Tryz.underlying2 g3
    obtain ⟨c, e3, _, _⟩ := DataW.trod_int Tryz.underlying2 g4
    simp at e0 e1 e2 e3
    have hs : ∃ av l k, c4 = .slice av l k := by
      rcases Deep.open_slice Tryz.underlying56 f2 with ⟨hcs, _⟩ | ⟨y, l, k, m, n, D, Pl, hcs, _⟩
      · simp at hcs; exact ⟨_, _, _, hcs⟩
      · simp at hcs; exact ⟨_, _, _, hcs⟩
    obtain ⟨av, l, k, rfl⟩ := hs
    obtain ⟨us, hus⟩ := open_updates (a := av) (len := l) (cap := k) f2
    exact ⟨id, a, b, c, av, l, k, us, by rw [e0, e1, e2, e3], hus⟩

theorem open_region {H : Type} {enc : TypeId × Value → H} {W : World} {b0 : Nat} {r : Reach} {v : Value} {d : DataW H} {p : List MemPlace}
    (hv : Value.okWide Tryz.prog W r b0 58 v) (h : DataW.Trod enc Tryz.prog W 0 (fun _ => true) true 58 v d p) :
    ∃ (id a b c : Int) (av : Option Addr) (n cap : Nat) (us : List M1.Upd), v = .agg #[.int .i64 id, .int .i64 a, .int .i64 b, .int .i64 c, .slice av n cap] ∧ IsUpds W av n cap us := by
  obtain ⟨cs, rfl, _⟩ := okWide_struct Tryz.underlying58 hv
  obtain ⟨fuel, hf⟩ := h
  obtain ⟨id, a, b, c, av, n, cap, us, hc, hs⟩ := region_cells hf
  refine ⟨id, a, b, c, av, n, cap, us, ?_, hs⟩
  have : cs.toList = [.int .i64 id, .int .i64 a, .int .i64 b, .int .i64 c, .slice av n cap] := by simpa [Value.cells] using hc
  rw [← this]
end Go.Proofs.YtccendmoeelniaaGreatDoor
