/-
  Texts of one proof, joined: OpenWd.
-/
import Derived.Test.YtgcinolbkllkkaaGreatZXWorldOk28
import Derived.Test.YtgcinolbkllkkaaGreatZXWorldOk49
namespace Go.Proofs.YtgcinolbkllkkaaGreat
open Go.ChangeShapes Go.WideShapes Go.ChangeAt Go.RowKit
set_option maxRecDepth 100000
theorem open_regions {H : Type} {enc : TypeId × Value → H} {W : World} {fuel len cap : Nat} {a : Option Addr} {x : DataW H × List MemPlace}
  (hf : DataW.trod enc Tryz.prog W 0 (fun _ => true) true fuel 44 (Value.slice a len cap).cells.toList = some x) :
  ∃ rs, IsRgs W a len cap rs := by
 rcases Deep.open_slice Tryz.underlying44 hf with ⟨hcs, _⟩ | ⟨c, l, k, m, n, D, Pl, hcs, _, hl, hm, hmm, hx, hall⟩
 ·simp [Value.cells] at hcs
  obtain ⟨rfl, rfl, rfl⟩ := hcs
  exact ⟨[], ⟨rfl, Nat.le_refl _, Nat.zero_le _, Or.inl rfl⟩⟩
 ·simp [Value.cells] at hcs
  obtain ⟨rfl, rfl, rfl⟩ := hcs
  have hmm' : m = cap := by simpa using hmm
  subst hmm'
  have hce : Tryz.prog.cellsOf 134 = 5 := by kernel_rfl
  have each : ∀ i, i < len → ∃ r : M1.Rg, ∃ (v : Option Addr) (n' c' : Nat), IsUpds W v n' c' r.us ∧ ∀ j y, [Value.int .i64 r.id, .int .i64 r.a, .int .i64 r.b, .int .i64 r.c, .slice v n' c'][j]? = some y → W.cell? (c.add (i * 5 + j)) = some y := fun i hi => by
   obtain ⟨cs', h1, h2⟩ := hall i (by omega)
   rw [hce] at h1
   obtain ⟨_, hlen, hcell⟩ := World.cells?_some h1
   obtain ⟨id, a, b, c2, v, n', c', us, e, hu⟩ := region_cells h2
   subst e
   refine ⟨⟨id, a, b, c2, us⟩, v, n', c', hu, fun j y hv => ?_⟩
   have hj : j < 5 := by
    have := (List.getElem?_eq_some_iff.1 hv).1
    simpa using this
   have := hcell j (by simpa using hj)
   rw [Deep.add_add] at this
   rw [this]
   exact hv
  obtain ⟨f, hf⟩ : ∃ f : Nat → M1.Rg, ∀ i, i < len → ∃ (v : Option Addr) (n' c' : Nat), IsUpds W v n' c' (f i).us ∧ ∀ j y, [Value.int .i64 (f i).id, .int .i64 (f i).a, .int .i64 (f i).b, .int .i64 (f i).c, .slice v n' c'][j]? = some y → W.cell? (c.add (i * 5 + j)) = some y := by
   refine ⟨fun i => if h : i < len then Classical.choose (each i h) else M1.zeroR, fun i hi => ?_⟩
   simp only [dif_pos hi]
   exact Classical.choose_spec (each i hi)
  have hup : ∀ i, i < len → M1.rgA ((List.range len).map f) i = f i := fun i hi => by simp [M1.rgA, List.getD, hi]
  refine ⟨(List.range len).map f, ⟨by simp, hl, hm, ?_⟩⟩
  rcases Nat.eq_zero_or_pos len with h0 | h0
  ·exact Or.inl h0
  ·right
   obtain ⟨b, off, spot⟩ := c
   obtain ⟨v0, n0, c0, _, k0⟩ := hf 0 h0
   have h00 := k0 0 _ rfl
   have hspot : spot = none := by simpa [Addr.add] using World.cell?_spot h00
   subst hspot
   refine ⟨b, off, rfl, ?_, fun i hi => ?_⟩
   ·exact World.block_lt_of_cell? W _ (by simpa [Addr.add] using h00)
   ·rw [hup i hi]
    obtain ⟨v, n', c', hu, ki⟩ := hf i hi
    have key : ∀ j y, [Value.int .i64 (f i).id, .int .i64 (f i).a, .int .i64 (f i).b, .int .i64 (f i).c, .slice v n' c'][j]? = some y → W.cell? ⟨b, off + i * 5 + j, none⟩ = some y := fun j y hv => by
     rw [Nat.add_assoc, ← Go.WideShapes.add_plain]
     exact ki j y hv
    exact ⟨v, n', c', key 0 _ rfl, key 1 _ rfl, key 2 _ rfl, key 3 _ rfl, key 4 _ rfl, hu⟩

theorem mail_cells {H : Type} {enc : TypeId × Value → H} {W : World} {fuel : Nat} {cs : List Value} {x : DataW H × List MemPlace}
  (h : DataW.trod enc Tryz.prog W 0 (fun _ => true) true fuel 138 cs = some x) :
  ∃ (m : M1.Ml) (v : Option Addr) (n c : Nat) (v2 : Option Addr) (n2 c2 : Nat), cs = [.int .i64 m.fr, .int .i64 m.tt, .bool m.ask, .slice v n c, .slice v2 n2 c2] ∧ IsVec W v n c m.vec ∧ IsUpds W v2 n2 c2 m.del := by
 obtain ⟨xs, n, _, _, hl, hlen, hf⟩ := DataW.trod_struct Tryz.underlying138 h
 have hl5 : cs.length = 5 := hl.trans (by kernel_rfl)
 have hi : Tryz.prog.cellsOf 2 = 1 := by kernel_rfl
 have hbo : Tryz.prog.cellsOf 4 = 1 := by kernel_rfl
 have hd : Tryz.prog.cellsOf 136 = 1 := by kernel_rfl
 have hu : Tryz.prog.cellsOf 132 = 1 := by kernel_rfl
 match xs, hlen, cs, hl5 with
 | [y0, y1, y2, y3, y4], _, [c0, c1, c2, c3, c4], _ =>
  have f0 := hf 0 _ rfl
  have f1 := hf 1 _ rfl
  have f2 := hf 2 _ rfl
  have f3 := hf 3 _ rfl
  have f4 := hf 4 _ rfl
  simp [hi, hbo, hd, hu] at f0 f1 f2 f3 f4
  obtain ⟨fr, e0, _, _⟩ := DataW.trod_int Tryz.underlying2 f0
  obtain ⟨tt, e1, _, _⟩ := DataW.trod_int Tryz.underlying2 f1
  obtain ⟨ask, e2, _⟩ := DataW.trod_bool Tryz.underlying4 f2
  simp at e0 e1 e2
  have hs3 : ∃ av l k, c3 = .slice av l k := by
   rcases Deep.open_slice Tryz.underlying136 f3 with ⟨hcs, _⟩ | ⟨y, l, k, m, n, D, Pl, hcs, _⟩
   ·simp at hcs; exact ⟨_, _, _, hcs⟩
   ·simp at hcs; exact ⟨_, _, _, hcs⟩
  have hs4 : ∃ av l k, c4 = .slice av l k := by
   rcases Deep.open_slice Tryz.underlying132 f4 with ⟨hcs, _⟩ | ⟨y, l, k, m, n, D, Pl, hcs, _⟩
   ·simp at hcs; exact ⟨_, _, _, hcs⟩
   ·simp at hcs; exact ⟨_, _, _, hcs⟩
  obtain ⟨v, l, k, rfl⟩ := hs3
  obtain ⟨v2, l2, k2, rfl⟩ := hs4
  obtain ⟨ds, hds⟩ := open_dots (a := v) (len := l) (cap := k) f3
  obtain ⟨us, hus⟩ := open_updates (a := v2) (len := l2) (cap := k2) f4
  exact ⟨⟨fr, tt, ask, ds, us⟩, v, l, k, v2, l2, k2, by rw [e0, e1, e2], hds, hus⟩

theorem open_mails {H : Type} {enc : TypeId × Value → H} {W : World} {fuel len cap : Nat} {a : Option Addr} {x : DataW H × List MemPlace}
  (hf : DataW.trod enc Tryz.prog W 0 (fun _ => true) true fuel 45 (Value.slice a len cap).cells.toList = some x) :
  ∃ ms, IsMls W a len cap ms := by
 rcases Deep.open_slice Tryz.underlying45 hf with ⟨hcs, _⟩ | ⟨c, l, k, m, n, D, Pl, hcs, _, hl, hm, hmm, hx, hall⟩
 ·simp [Value.cells] at hcs
  obtain ⟨rfl, rfl, rfl⟩ := hcs
  exact ⟨[], ⟨rfl, Nat.le_refl _, Nat.zero_le _, Or.inl rfl⟩⟩
 ·simp [Value.cells] at hcs
  obtain ⟨rfl, rfl, rfl⟩ := hcs
  have hmm' : m = cap := by simpa using hmm
  subst hmm'
  have hce : Tryz.prog.cellsOf 138 = 5 := by kernel_rfl
  have each : ∀ i, i < len → ∃ r : M1.Ml, ∃ (v : Option Addr) (n' c' : Nat) (v2 : Option Addr) (n2 c2 : Nat), IsVec W v n' c' r.vec ∧ IsUpds W v2 n2 c2 r.del ∧ ∀ j y, [Value.int .i64 r.fr, .int .i64 r.tt, .bool r.ask, .slice v n' c', .slice v2 n2 c2][j]? = some y → W.cell? (c.add (i * 5 + j)) = some y := fun i hi => by
   obtain ⟨cs', h1, h2⟩ := hall i (by omega)
   rw [hce] at h1
   obtain ⟨_, hlen, hcell⟩ := World.cells?_some h1
   obtain ⟨r, v, n', c', v2, n2, c2, e, hv, hu⟩ := mail_cells h2
   subst e
   refine ⟨r, v, n', c', v2, n2, c2, hv, hu, fun j y hv => ?_⟩
   have hj : j < 5 := by
    have := (List.getElem?_eq_some_iff.1 hv).1
    simpa using this
   have := hcell j (by simpa using hj)
   rw [Deep.add_add] at this
   rw [this]
   exact hv
  obtain ⟨f, hf⟩ : ∃ f : Nat → M1.Ml, ∀ i, i < len → ∃ (v : Option Addr) (n' c' : Nat) (v2 : Option Addr) (n2 c2 : Nat), IsVec W v n' c' (f i).vec ∧ IsUpds W v2 n2 c2 (f i).del ∧ ∀ j y, [Value.int .i64 (f i).fr, .int .i64 (f i).tt, .bool (f i).ask, .slice v n' c', .slice v2 n2 c2][j]? = some y → W.cell? (c.add (i * 5 + j)) = some y := by
   refine ⟨fun i => if h : i < len then Classical.choose (each i h) else M1.zeroM, fun i hi => ?_⟩
   simp only [dif_pos hi]
   exact Classical.choose_spec (each i hi)
  have hup : ∀ i, i < len → M1.mlA ((List.range len).map f) i = f i := fun i hi => by simp [M1.mlA, List.getD, hi]
  refine ⟨(List.range len).map f, ⟨by simp, hl, hm, ?_⟩⟩
  rcases Nat.eq_zero_or_pos len with h0 | h0
  ·exact Or.inl h0
  ·right
   obtain ⟨b, off, spot⟩ := c
   obtain ⟨_, _, _, _, _, _, _, _, k0⟩ := hf 0 h0
   have h00 := k0 0 _ rfl
   have hspot : spot = none := by simpa [Addr.add] using World.cell?_spot h00
   subst hspot
   refine ⟨b, off, rfl, ?_, fun i hi => ?_⟩
   ·exact World.block_lt_of_cell? W _ (by simpa [Addr.add] using h00)
   ·rw [hup i hi]
    obtain ⟨v, n', c', v2, n2, c2, hv, hu, ki⟩ := hf i hi
    have key : ∀ j y, [Value.int .i64 (f i).fr, .int .i64 (f i).tt, .bool (f i).ask, .slice v n' c', .slice v2 n2 c2][j]? = some y → W.cell? ⟨b, off + i * 5 + j, none⟩ = some y := fun j y hv => by
     rw [Nat.add_assoc, ← Go.WideShapes.add_plain]
     exact ki j y hv
    exact ⟨v, n', c', v2, n2, c2, key 0 _ rfl, key 1 _ rfl, key 2 _ rfl, key 3 _ rfl, key 4 _ rfl, hv, hu⟩

theorem world_cells {H : Type} {enc : TypeId × Value → H} {W : World} {fuel : Nat} {cs : List Value} {x : DataW H × List MemPlace}
  (h : DataW.trod enc Tryz.prog W 0 (fun _ => true) true fuel 47 cs = some x) :
  ∃ (now : Int) (v : Option Addr) (n c : Nat) (rs : List M1.Rg) (v2 : Option Addr) (n2 c2 : Nat) (ms : List M1.Ml), cs = [.int .i64 now, .slice v n c, .slice v2 n2 c2] ∧ IsRgs W v n c rs ∧ IsMls W v2 n2 c2 ms := by
 obtain ⟨xs, n, _, _, hl, hlen, hf⟩ := DataW.trod_struct Tryz.underlying47 h
 have hl3 : cs.length = 3 := hl.trans (by kernel_rfl)
 have hi : Tryz.prog.cellsOf 2 = 1 := by kernel_rfl
 have hd : Tryz.prog.cellsOf 44 = 1 := by kernel_rfl
 have hu : Tryz.prog.cellsOf 45 = 1 := by kernel_rfl
 match xs, hlen, cs, hl3 with
 | [y0, y1, y2], _, [c0, c1, c2], _ =>
  have f0 := hf 0 _ rfl
  have f1 := hf 1 _ rfl
  have f2 := hf 2 _ rfl
  simp [hi, hd, hu] at f0 f1 f2
  obtain ⟨now, e0, _, _⟩ := DataW.trod_int Tryz.underlying2 f0
  simp at e0
  have hs3 : ∃ av l k, c1 = .slice av l k := by
   rcases Deep.open_slice Tryz.underlying44 f1 with ⟨hcs, _⟩ | ⟨y, l, k, m, n, D, Pl, hcs, _⟩
   ·simp at hcs; exact ⟨_, _, _, hcs⟩
   ·simp at hcs; exact ⟨_, _, _, hcs⟩
  have hs4 : ∃ av l k, c2 = .slice av l k := by
   rcases Deep.open_slice Tryz.underlying45 f2 with ⟨hcs, _⟩ | ⟨y, l, k, m, n, D, Pl, hcs, _⟩
   ·simp at hcs; exact ⟨_, _, _, hcs⟩
   ·simp at hcs; exact ⟨_, _, _, hcs⟩
  obtain ⟨v, l, k, rfl⟩ := hs3
  obtain ⟨v2, l2, k2, rfl⟩ := hs4
  obtain ⟨rs, hrs⟩ := open_regions (a := v) (len := l) (cap := k) f1
  obtain ⟨ms, hms⟩ := open_mails (a := v2) (len := l2) (cap := k2) f2
  exact ⟨now, v, l, k, rs, v2, l2, k2, ms, by rw [e0], hrs, hms⟩

theorem open_world {H : Type} {enc : TypeId × Value → H} {W : World} {b0 : Nat} {r : Reach} {v : Value} {d : DataW H} {p : List MemPlace}
  (hv : Value.okWide Tryz.prog W r b0 47 v) (h : DataW.Trod enc Tryz.prog W 0 (fun _ => true) true 47 v d p) :
  ∃ (now : Int) (a : Option Addr) (n c : Nat) (rs : List M1.Rg) (a2 : Option Addr) (n2 c2 : Nat) (ms : List M1.Ml), v = .agg #[.int .i64 now, .slice a n c, .slice a2 n2 c2] ∧ IsRgs W a n c rs ∧ IsMls W a2 n2 c2 ms := by
 obtain ⟨cs, rfl, _⟩ := okWide_struct Tryz.underlying47 hv
 obtain ⟨fuel, hf⟩ := h
 obtain ⟨now, a, n, c, rs, a2, n2, c2, ms, hc, hs, hm⟩ := world_cells hf
 refine ⟨now, a, n, c, rs, a2, n2, c2, ms, ?_, hs, hm⟩
 have : cs.toList = [.int .i64 now, .slice a n c, .slice a2 n2 c2] := by simpa [Value.cells] using hc
 rw [← this]

end Go.Proofs.YtgcinolbkllkkaaGreat
