/-
  Texts of one proof, joined: Sn1.
-/
import Derived.Test.YtccendmoeelniaaGreatDoorZReceived18
import Derived.Test.YtccendmoeelniaaGreatDoorRows
import Derived.Stop.LaidTwo
import Derived.LaidMore
namespace Go.Proofs.YtccendmoeelniaaGreatDoor
open Go.ChangeShapes Go.WideShapes Go.ChangeAt Go.RowKit
set_option linter.unusedVariables false
theorem trodVars_len {H : Type} {enc : TypeId × Value → H} {P : Program} {W : World} {sp : Nat → Bool} : ∀ {ns : List String} {gs : List (DataW H)} {ps : List MemPlace}, DataW.TrodVars enc P W sp ns gs ps → gs.length = ns.length
  | [], [], _, _ => rfl
  | [], _ :: _, _, h => h.elim
  | _ :: _, [], _, h => h.elim
  | n :: ns, d :: ds, ps, h => by
    obtain ⟨_, _, _, _, _, _, _, _, _, _, hs, _⟩ := h
    simp [trodVars_len hs]

theorem list5 {A : Type} {l : List A} (h : l.length = 5) : ∃ a b c d e, l = [a, b, c, d, e] := by
  match l, h with
  | [a, b, c, d, e], _ => exact ⟨a, b, c, d, e, rfl⟩

def LL : List (String × DataW Unit) := Rows.fnExactReceivedRow.laid

theorem hd_rt : (Tryz.prog.cutTypes.find? (·.1 == "internal/reflectlite.rtype")).map (·.2) = some 187 := by kernel_rfl

theorem hd_et : Tryz.prog.globalNamed "errors.errorType" = some 5 := by kernel_rfl

theorem hd_size : Tryz.prog.types.size = 258 := by kernel_rfl

theorem hd_one : ((List.range 258).filter fun t => Tryz.prog.rowNamed t [101, 114, 114, 111, 114]) = [82] := by kernel_rfl

theorem handle_of {W : World} (h : handlesMet Tryz.prog (LL.take 1) W) : W.cell? ⟨5, 0, none⟩ = some (.iface 187 (rt 82)) := by
  obtain ⟨name, u, ty, e1, e2, e3, e4, e5⟩ := h ("errors.errorType", Rows.laid_errors_errorType) (by exact List.mem_cons_self)
  have en : name = [101, 114, 114, 111, 114] := (Option.some.inj e1).symm
  subst en
  obtain rfl := Option.some.inj (hd_rt.symm.trans e2)
  have hm : ty ∈ (List.range 258).filter fun t => Tryz.prog.rowNamed t [101, 114, 114, 111, 114] := List.mem_filter.2 ⟨List.mem_range.2 (by rw [← hd_size]; exact e3), e4⟩
  rw [hd_one] at hm
  obtain rfl := List.mem_singleton.1 hm
  have hh : typeHandle Tryz.prog 82 = .pointer (some ⟨6, 82, none⟩) := by kernel_rfl
  rw [hh] at e5
  simpa using World.var?_cell hd_et e5 0

theorem hd_star : "*" ++ "errors.errorString" = "*errors.errorString" := by decide

theorem hd_row (u : TypeId) (h : Tryz.prog.typeName? 3 u = some "*errors.errorString") : u = 223 :=
  typeName_ptr_named (nm := "errors.errorString") (by rw [hd_star]; kernel_rfl) (by kernel_rfl) (by decide) u (by rw [hd_star]; exact h)

theorem hd_c1 : Tryz.prog.cellsOf 243 = 1 := by kernel_rfl

theorem hd_c2 : Tryz.prog.cellsOf 9 = 1 := by kernel_rfl

theorem hd_p : laidMetH Tryz.prog LL = fun W => laidMet Tryz.prog (LL.drop 1) W ∧ handlesMet Tryz.prog (LL.take 1) W := rfl

theorem ne_of {W : World} {a b : Addr} {s t : ByteArray} (ha : W.cell? a = some (.string s)) (hb : W.cell? b = some (.string t)) (h : ¬ s.data.toList = t.data.toList) : a ≠ b := fun e => by
  rw [e, hb] at ha
  injection ha with ha
  injection ha with ha
  exact h (by rw [ha])

set_option maxRecDepth 100000 in
theorem sens_of {W : World} (h : laidMetH Tryz.prog LL W) : ∃ s0 s1 s2 s3 s4, Sens W s0 s1 s2 s3 s4 := by
  have h' : laidMet Tryz.prog (LL.drop 1) W ∧ handlesMet Tryz.prog (LL.take 1) W := by rw [hd_p] at h; exact h
  have ct := handle_of h'.2
  have q1 := h'.1
  have q2 : laidMet Tryz.prog (LL.drop 3) W := q1.tail.tail
  have q3 : laidMet Tryz.prog (LL.drop 4) W := q2.tail
  obtain ⟨a0, a1, s0, s1, c0, c1, t0, t1, hv0, hv1, hc0, hs0, _, hc1, hs1, _, n01, hb0, hb1⟩ := laid_sentinels2 (P := Tryz.prog) (g0 := 0) (g1 := 1) (tp := 223) q1 (by kernel_rfl) (by kernel_rfl) (by kernel_rfl) (by kernel_rfl) Tryz.underlying82 hd_row Tryz.underlying223 Tryz.underlying243 rfl rfl Tryz.underlying9 hd_c1 hd_c2
  obtain ⟨a4, a3, s4, s3, c4, c3, t4, t3, hv4, hv3, hc4, hs4, _, hc3, hs3, _, n43, hb4, hb3⟩ := laid_sentinels2 (P := Tryz.prog) (g0 := 4) (g1 := 3) (tp := 223) q2 (by kernel_rfl) (by kernel_rfl) (by kernel_rfl) (by kernel_rfl) Tryz.underlying82 hd_row Tryz.underlying223 Tryz.underlying243 rfl rfl Tryz.underlying9 hd_c1 hd_c2
  obtain ⟨_, a2, _, s2, _, c2, _, t2, _, hv2, _, _, _, hc2, hs2, _, _, _, hb2⟩ := laid_sentinels2 (P := Tryz.prog) (g0 := 3) (g1 := 2) (tp := 223) q3 (by kernel_rfl) (by kernel_rfl) (by kernel_rfl) (by kernel_rfl) Tryz.underlying82 hd_row Tryz.underlying223 Tryz.underlying243 rfl rfl Tryz.underlying9 hd_c1 hd_c2
  have v0 : W.cell? ⟨0, 0, none⟩ = some (es a0) := by simpa using World.var?_cell (P := Tryz.prog) (g := 0) (by kernel_rfl) hv0 0
  have v1 : W.cell? ⟨1, 0, none⟩ = some (es a1) := by simpa using World.var?_cell (P := Tryz.prog) (g := 1) (by kernel_rfl) hv1 0
  have v2 : W.cell? ⟨2, 0, none⟩ = some (es a2) := by simpa using World.var?_cell (P := Tryz.prog) (g := 2) (by kernel_rfl) hv2 0
  have v3 : W.cell? ⟨3, 0, none⟩ = some (es a3) := by simpa using World.var?_cell (P := Tryz.prog) (g := 3) (by kernel_rfl) hv3 0
  have v4 : W.cell? ⟨4, 0, none⟩ = some (es a4) := by simpa using World.var?_cell (P := Tryz.prog) (g := 4) (by kernel_rfl) hv4 0
  have g5 : 5 < W.heap.size := by
    rcases Nat.lt_or_ge 5 W.heap.size with q | q
    · exact q
    · have : W.heap[5]? = none := Array.getElem?_eq_none q
      simp [World.cell?, this] at ct
  exact ⟨a0, a1, a2, a3, a4, v0, v1, v2, v3, v4, ct, ⟨_, _, hb0⟩, ⟨_, _, hb1⟩, ⟨_, _, hb2⟩, ⟨_, _, hb3⟩, ⟨_, _, hb4⟩, n01, ne_of hc0 hc2 (by rw [hs0, hs2]; decide), ne_of hc0 hc3 (by rw [hs0, hs3]; decide), ne_of hc0 hc4 (by rw [hs0, hs4]; decide), ne_of hc1 hc2 (by rw [hs1, hs2]; decide), ne_of hc1 hc3 (by rw [hs1, hs3]; decide), ne_of hc1 hc4 (by rw [hs1, hs4]; decide), ne_of hc2 hc3 (by rw [hs2, hs3]; decide), ne_of hc2 hc4 (by rw [hs2, hs4]; decide), ne_of hc3 hc4 (by rw [hs3, hs4]; decide), g5⟩

end Go.Proofs.YtccendmoeelniaaGreatDoor
