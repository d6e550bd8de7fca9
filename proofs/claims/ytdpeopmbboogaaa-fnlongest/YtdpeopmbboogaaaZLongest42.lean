/-
  Texts of one proof, joined: Fi1, Fi2.
-/
import Derived.Test.YtdpeopmbboogaaaZLongest37
import Derived.Test.YtdpeopmbboogaaaZLongest41
namespace Go.Proofs.Ytdpeopmbboogaaa
open Go.ChangeShapes Go.WideShapes Go.ChangeAt Go.RowKit
set_option linter.unusedSimpArgs false
set_option linter.unusedVariables false
attribute [local go_sem] run_makeMap

theorem take_fj {S : List M1.Upd} (hS : S.Pairwise M1.idlt) {i : Nat} (hi : i < S.length) : M1.fj (S.take i) (M1.up S i).id = none := by
  refine M1.fj_none fun x hx e => ?_
  obtain ⟨j, hj, e2⟩ := List.getElem_of_mem hx
  rw [List.length_take] at hj
  rw [List.getElem_take] at e2
  rw [List.pairwise_iff_getElem] at hS
  have := hS j i (by omega) hi (by omega)
  have e3 : M1.up S i = S[i] := by simp [M1.up, List.getD, hi]
  rw [e2] at this
  rw [e3] at e
  unfold M1.idlt at this; omega
theorem take_up {S : List M1.Upd} {i : Nat} (hi : i < S.length) : S.take (i + 1) = S.take i ++ [M1.up S i] := by
  rw [List.take_succ_eq_append_getElem hi]
  simp [M1.up, List.getD, hi]
theorem len_mapS {w : World} {b : Nat} {us : List M1.Upd} (h : MapS w b us) : ∃ es : Array MapEntry, w.heap[b]? = some (.map es us.length) ∧ es.size = us.length := by
  obtain ⟨es, hb, h2, _⟩ := h
  refine ⟨es, hb, ?_⟩
  have := congrArg List.length h2
  simpa using this

set_option maxHeartbeats 8000000 in
set_option maxRecDepth 100000 in
theorem spansById_any (av : Option Addr) (m c B : Nat) (S : List M1.Upd) (w : World) (h : SpIn w av m c B S) (hB : B ≤ w.heap.size) (hS : S.Pairwise M1.idlt) (hm60 : m ≤ 1000) :
    Calls Try.prog 29 #[.slice av m c] w fun e w' => e = .returned (.map (some w.heap.size)) ∧ MapS w' w.heap.size S ∧ Below w.heap.size w w' := by
  have hl : Hid (S.length = m) := h.len
  have hm1 := h.cap
  have hm2 := h.most
  unfold maxLen at hm2
  have hM0 := MapS.made w
  have hB0 : Below w.heap.size w (w.alloc (.map #[] 0)) := (Below.refl _ _).alloc (Nat.le_refl _) _
  go_enter Try.func29, Try.ntmps29
  go_wp2_with fail
  go_loopw [9] (fun iv wr => ∃ i : Nat, i ≤ m ∧ iv = .int .i64 i ∧ MapS wr w.heap.size (S.take i) ∧ Below w.heap.size w wr) (fun iv _ => m - (intOf iv).toNat)
  case atStart => exact ⟨0, Nat.zero_le _, rfl, hM0, hB0⟩
  case round =>
    clear hM0 hB0
    obtain ⟨i, hi, rfl, hM, hBw⟩ := hrel
    have hs := hBw.size
    by_cases hlt : i < m
    · have h2 := h.below (hBw.mono hB)
      rcases h2.lies with h0 | ⟨g, rfl, hgB, r1⟩
      · omega
      have hgl := r1.lt
      have i0 : (0 : Int) ≤ (i : Int) := by omega
      have i1 : (i : Int) < (m : Int) := by omega
      have hiS : i < S.length := by rw [hl.out]; exact hlt
      have z0 : scell S (i * 5) = .int .i64 (M1.up S i).id := scell_at S i 0 (by omega)
      have z1 : scell S (i * 5 + 1) = .int .i64 (M1.up S i).pa := scell_at S i 1 (by omega)
      have z2 : scell S (i * 5 + 2) = .string (M1.up S i).s := scell_at S i 2 (by omega)
      have z3 : scell S (i * 5 + 3) = .int .i64 (M1.up S i).st := scell_at S i 3 (by omega)
      have z4 : scell S (i * 5 + 4) = .int .i64 (M1.up S i).en := scell_at S i 4 (by omega)
      have d0 := r1.cell (o := i * 5) (by omega)
      have d1 := r1.cell (o := i * 5 + 1) (by omega)
      have d2 := r1.cell (o := i * 5 + 2) (by omega)
      have d3 := r1.cell (o := i * 5 + 3) (by omega)
      have d4 := r1.cell (o := i * 5 + 4) (by omega)
      rw [z0] at d0
      rw [z1] at d1
      rw [z2] at d2
      rw [z3] at d3
      rw [z4] at d4
      clear z0 z1 z2 z3 z4
      have HT : Hid (S.take (i + 1) = S.take i ++ [M1.up S i]) := take_up hiS
      have HF : Hid (M1.fj (S.take i) (M1.up S i).id = none) := take_fj hS hiS
      obtain ⟨u, hu⟩ : ∃ u, Hid (M1.up S i = u) := ⟨_, rfl⟩
      rw [hu.out] at d0 d1 d2 d3 d4 HT HF
      have hA : Below wr.heap.size wr (wr.alloc (.cells #[.int .i64 u.id, .int .i64 u.pa, .string u.s, .int .i64 u.st, .int .i64 u.en] 34)) := (Below.refl _ _).alloc (Nat.le_refl _) _
      obtain ⟨w5, hrun, hM5, hg5⟩ := run_updateS_new (hM.below hA hM.lt) u HF.out
      simp only [spv] at hrun
      go_wp2_with fail
      exact ⟨⟨i + 1, by omega, by go_num, by rw [HT.out]; exact hM5, (hBw.alloc hBw.size _).grown hg5 (by simp; omega) (fun k e => by injection e with e; omega)⟩, by simp [intOf]; omega⟩
    · have him : Hid (S.take i = S) := (by rw [show i = S.length by rw [hl.out]; omega]; exact List.take_length : S.take i = S)
      rw [him.out] at hM
      go_wp2_with fail
      go_ret
      exact ⟨rfl, hM, hBw⟩
end Go.Proofs.Ytdpeopmbboogaaa

namespace Go.Proofs.Ytdpeopmbboogaaa
open Go.ChangeShapes Go.WideShapes Go.ChangeAt Go.RowKit
set_option linter.unusedSimpArgs false
set_option linter.unusedVariables false

def scf (u : M1.Upd) (o : Nat) : Value := (scs u).getD o undef
theorem rowSp (w : World) (u : M1.Upd) (t : TypeId) : RowAt (w.alloc (.cells #[.int .i64 u.id, .int .i64 u.pa, .string u.s, .int .i64 u.st, .int .i64 u.en] t)) w.heap.size 5 (scf u) :=
  (RowAt.new w #[.int .i64 u.id, .int .i64 u.pa, .string u.s, .int .i64 u.st, .int .i64 u.en] t).same fun o ho => by
    match o, ho with
    | 0, _ => rfl
    | 1, _ => rfl
    | 2, _ => rfl
    | 3, _ => rfl
    | 4, _ => rfl
theorem scf_same {f f' : Nat → Value} (h0 : f 0 = f' 0) (h1 : f 1 = f' 1) (h2 : f 2 = f' 2) (h3 : f 3 = f' 3) (h4 : f 4 = f' 4) : ∀ o, o < 5 → f o = f' o := fun o ho => by
  match o, ho with
  | 0, _ => exact h0
  | 1, _ => exact h1
  | 2, _ => exact h2
  | 3, _ => exact h3
  | 4, _ => exact h4

set_option maxHeartbeats 8000000 in
set_option maxRecDepth 100000 in
theorem isRoot_any (u : M1.Upd) (b m : Nat) (S : List M1.Upd) (w : World) (hM : MapS w b S) (hm : Hid (S.length = m)) (hm60 : m ≤ 1000) :
    Calls Try.prog 33 #[.agg #[.int .i64 u.id, .int .i64 u.pa, .string u.s, .int .i64 u.st, .int .i64 u.en], .map (some b)] w fun e w' => e = .returned (.bool (M1.rootB S u)) ∧ Below w.heap.size w w' := by
  have hbl := hM.lt
  have hA : Below w.heap.size w (w.alloc (.cells #[.int .i64 u.id, .int .i64 u.pa, .string u.s, .int .i64 u.st, .int .i64 u.en] 34)) := (Below.refl _ _).alloc (Nat.le_refl _) _
  have hlk := run_lookupS (hM.below hA hbl) u.pa
  cases hf : M1.fj S u.pa with
  | none =>
    have HR : Hid (M1.rootB S u = true) := (by unfold M1.rootB M1.par; rw [hf] : _ = _)
    rw [hf] at hlk
    clear hf
    simp only [Option.getD_none, Option.isSome_none, spv, M1.zeroU] at hlk
    go_enter Try.func33, Try.ntmps33
    go_wp2_with fail
    go_ret
    exact ⟨by rw [HR.out]; rfl, hA.alloc (by simp) _⟩
  | some y =>
    have HR : Hid (M1.goR S u m (some y) = M1.rootB S u) := (by unfold M1.rootB M1.par; rw [hf, hm.out] : _ = _)
    rw [hf] at hlk
    clear hf
    simp only [Option.getD_some, Option.isSome_some, spv] at hlk
    obtain ⟨rb, hrb⟩ : ∃ r, Hid (M1.rootB S u = r) := ⟨_, rfl⟩
    rw [hrb.out] at HR ⊢
    have rU := (rowSp w u 34).alloc (.cells #[.int .i64 y.id, .int .i64 y.pa, .string y.s, .int .i64 y.st, .int .i64 y.en] 34)
    have rY := rowSp (w.alloc (.cells #[.int .i64 u.id, .int .i64 u.pa, .string u.s, .int .i64 u.st, .int .i64 u.en] 34)) y 34
    have hB0 : Below w.heap.size w ((w.alloc (.cells #[.int .i64 u.id, .int .i64 u.pa, .string u.s, .int .i64 u.st, .int .i64 u.en] 34)).alloc (.cells #[.int .i64 y.id, .int .i64 y.pa, .string y.s, .int .i64 y.st, .int .i64 y.en] 34)) := hA.alloc (by simp) _
    simp only [World.size_alloc] at rY
    have hM2 := hM.below hB0 hbl
    obtain ⟨es, hes, hsz⟩ := len_mapS hM2
    rw [hm.out] at hsz hes
    have hlen := run_len_map (P := Try.prog) _ 48 3 b es m (by kernel_rfl) hes
    rw [hsz] at hlen
    clear hes hsz
    go_enter Try.func33, Try.ntmps33
    go_wp2_with fail
    go_loopw [6, 18] (fun tv iv wr => ∃ (i : Nat) (o : Option M1.Upd), i ≤ m ∧ iv = .int .i64 i ∧ tv = .bool o.isSome ∧ RowAt wr w.heap.size 5 (scf u) ∧ RowAt wr (w.heap.size + 1) 5 (scf (o.getD M1.zeroU)) ∧ Hid (M1.goR S u (m - i) o = rb) ∧ Below w.heap.size w wr) (fun _ iv _ => m - (intOf iv).toNat)
    case atStart => exact ⟨0, some y, Nat.zero_le _, rfl, rfl, rU, rY, HR, hB0⟩
    case round =>
      clear rU rY HR hB0 hlk hlen hM2 hA
      obtain ⟨i, o, hi, rfl, rfl, rU, rY, hg, hB⟩ := hrel
      have hs := hB.size
      have lU := rU.lt
      have lY := rY.lt
      by_cases hlt : i < m
      · have HFU : Hid (m - i = (m - (i + 1)) + 1) := (by omega : m - i = (m - (i + 1)) + 1)
        have cu := rU.cell (o := 0) (by omega)
        simp [scf, scs] at cu
        cases o with
        | none =>
          have HF : Hid (rb = false) := (by rw [← hg.out, HFU.out]; rfl : _ = _)
          go_wp2_with fail
          go_ret
          exact ⟨by rw [HF.out]; rfl, hB⟩
        | some z =>
          have HE2 : Hid (rb = if z.id < u.id then false else if z.id = u.id then true else M1.goR S u (m - (i + 1)) (M1.par S z)) := (by rw [← hg.out, HFU.out]; rfl : _ = _)
          have rZ : RowAt wr (w.heap.size + 1) 5 (scf z) := rY
          have cz0 := rZ.cell (o := 0) (by omega)
          have cz1 := rZ.cell (o := 1) (by omega)
          have cz2 := rZ.cell (o := 2) (by omega)
          have cz3 := rZ.cell (o := 3) (by omega)
          have cz4 := rZ.cell (o := 4) (by omega)
          have cf0 := rZ.free (o := 0) (by omega)
          have cf1 := rZ.free (o := 1) (by omega)
          have cf2 := rZ.free (o := 2) (by omega)
          have cf3 := rZ.free (o := 3) (by omega)
          have cf4 := rZ.free (o := 4) (by omega)
          simp [scf, scs] at cz0 cz1 cz2 cz3 cz4
          clear rY
          by_cases h1 : z.id < u.id
          · have HF : Hid (rb = false) := (by rw [HE2.out, if_pos h1] : _ = _)
            go_wp2_with fail
            go_ret
            exact ⟨by rw [HF.out]; rfl, hB⟩
          · by_cases h2 : z.id = u.id
            · have HF : Hid (rb = true) := (by rw [HE2.out, if_neg h1, if_pos h2] : _ = _)
              have q2 : (z.id == u.id) = true := by simp [h2]
              clear h2
              go_wp2_with fail
              go_ret
              exact ⟨by rw [HF.out]; rfl, hB⟩
            · have q2 : (z.id == u.id) = false := by simp [h2]
              have HF : Hid (M1.goR S u (m - (i + 1)) (M1.fj S z.pa) = rb) := (by rw [HE2.out, if_neg h1, if_neg h2]; rfl : _ = _)
              clear h2
              have hlk := run_lookupS (hM.below hB hbl) z.pa
              obtain ⟨o2, ho2⟩ : ∃ o2, Hid (M1.fj S z.pa = o2) := ⟨_, rfl⟩
              rw [ho2.out] at hlk HF
              obtain ⟨v, hv⟩ : ∃ v, Hid (o2.getD M1.zeroU = v) := ⟨_, rfl⟩
              rw [hv.out] at hlk
              simp only [spv] at hlk
              have rU2 : RowAt (((((wr.setCell ⟨w.heap.size + 1, 0, none⟩ (.int .i64 v.id)).setCell ⟨w.heap.size + 1, 1, none⟩ (.int .i64 v.pa)).setCell ⟨w.heap.size + 1, 2, none⟩ (.string v.s)).setCell ⟨w.heap.size + 1, 3, none⟩ (.int .i64 v.st)).setCell ⟨w.heap.size + 1, 4, none⟩ (.int .i64 v.en)) w.heap.size 5 (scf u) := ((((rU.far (by simp) _).far (by simp) _).far (by simp) _).far (by simp) _).far (by simp) _
              have rV2 : RowAt (((((wr.setCell ⟨w.heap.size + 1, 0, none⟩ (.int .i64 v.id)).setCell ⟨w.heap.size + 1, 1, none⟩ (.int .i64 v.pa)).setCell ⟨w.heap.size + 1, 2, none⟩ (.string v.s)).setCell ⟨w.heap.size + 1, 3, none⟩ (.int .i64 v.st)).setCell ⟨w.heap.size + 1, 4, none⟩ (.int .i64 v.en)) (w.heap.size + 1) 5 (scf v) := (((((rZ.set (o := 0) (by omega) _).set (o := 1) (by omega) _).set (o := 2) (by omega) _).set (o := 3) (by omega) _).set (o := 4) (by omega) _).same (scf_same rfl rfl rfl rfl rfl)
              have hB2 : Below w.heap.size w (((((wr.setCell ⟨w.heap.size + 1, 0, none⟩ (.int .i64 v.id)).setCell ⟨w.heap.size + 1, 1, none⟩ (.int .i64 v.pa)).setCell ⟨w.heap.size + 1, 2, none⟩ (.string v.s)).setCell ⟨w.heap.size + 1, 3, none⟩ (.int .i64 v.st)).setCell ⟨w.heap.size + 1, 4, none⟩ (.int .i64 v.en)) := ((((hB.setCell (p := ⟨w.heap.size + 1, 0, none⟩) (by show _ ≤ w.heap.size + 1; omega) _).setCell (p := ⟨w.heap.size + 1, 1, none⟩) (by show _ ≤ w.heap.size + 1; omega) _).setCell (p := ⟨w.heap.size + 1, 2, none⟩) (by show _ ≤ w.heap.size + 1; omega) _).setCell (p := ⟨w.heap.size + 1, 3, none⟩) (by show _ ≤ w.heap.size + 1; omega) _).setCell (p := ⟨w.heap.size + 1, 4, none⟩) (by show _ ≤ w.heap.size + 1; omega) _
              go_wp2_with fail
              exact ⟨⟨i + 1, o2, by omega, by go_num, rfl, rU2, by rw [hv.out]; exact rV2, HF, hB2⟩, by simp [intOf]; omega⟩
      · have HF : Hid (rb = false) := (by rw [← hg.out, show m - i = 0 by omega]; cases o <;> rfl : _ = _)
        go_wp2_with fail
        go_ret
        exact ⟨by rw [HF.out]; rfl, hB⟩
end Go.Proofs.Ytdpeopmbboogaaa
