/-
  Texts of one proof, joined: Sp4, Sp6, DrawS, MapJ.
-/
import Derived.Test.YtdpeopmbboogaaaZLongest24
import Derived.Test.YtdpeopmbboogaaaZLongest22
import Derived.Test.YtdpeopmbboogaaaZLongest20
import Derived.Test.YtdpeopmbboogaaaZLongest19
import Derived.Test.YtdpeopmbboogaaaZLongest21
import Derived.Test.YtdpeopmbboogaaaZLongest23
namespace M1
/-- The spans of a trace, as updates, by rising number. -/
def sps (us : List Upd) (tr : Int) : List Upd := if setOk us = true then spTo us tr us.length else []
theorem sps_len (us : List Upd) (tr : Int) : (sps us tr).length ≤ us.length := by
  unfold sps
  split
  · exact spTo_len us tr us.length
  · simp
end M1
namespace Go.Proofs.Ytdpeopmbboogaaa
open Go.ChangeShapes Go.WideShapes Go.ChangeAt Go.RowKit
set_option linter.unusedSimpArgs false
set_option linter.unusedVariables false

/-- A list of spans in memory of one's own. -/
def SpW (w w' : World) (e : Ending) (r : List M1.Upd) : Prop := ∃ (a : Option Addr) (c : Nat), e = .returned (.slice a r.length c) ∧ MG w' a r.length c w.heap.size w'.heap.size (scell r)

end Go.Proofs.Ytdpeopmbboogaaa

namespace Go.Proofs.Ytdpeopmbboogaaa
open Go.ChangeShapes Go.WideShapes Go.ChangeAt Go.RowKit
set_option linter.unusedSimpArgs false
set_option linter.unusedVariables false

/-- Only that row has turned; where there is none, nothing. -/
def MkP (av : Option Addr) (w w' : World) : Prop := (av = none → Below w.heap.size w w') ∧ ∀ g, av = some ⟨g, 0, none⟩ → Gr g w w'
theorem mkP_none {w w' : World} (h : Below w.heap.size w w') : MkP none w w' := ⟨fun _ => h, fun _ e => by cases e⟩
theorem mkP_some {w w' : World} {g : Nat} (h : Gr g w w') : MkP (some ⟨g, 0, none⟩) w w' := ⟨(fun e => by cases e), (fun g2 e => by injection e with e; injection e with e _ _; subst e; exact h)⟩
theorem MG.offP {w w' : World} {av : Option Addr} {n cap lo hi g : Nat} {f : Nat → Value} (h : MG w av n cap lo hi f) (hg : Gr g w w') (hb : g < lo ∨ hi ≤ g) : MG w' av n cap lo hi f :=
  ⟨h.1, h.2.1, h.2.2.imp id fun ⟨k, e, h1, h2, r⟩ => ⟨k, e, h1, h2, r.gr hg (by omega)⟩⟩
theorem MG.mkP {w w' : World} {av bv : Option Addr} {n cap lo hi m cm lo2 hi2 : Nat} {f f2 : Nat → Value} (h : MG w av n cap lo hi f) (h2 : MG w bv m cm lo2 hi2 f2) (hm : MkP bv w w') (hd : hi ≤ lo2 ∨ hi2 ≤ lo) : MG w' av n cap lo hi f := by
  refine ⟨h.1, h.2.1, ?_⟩
  rcases h.2.2 with h0 | ⟨g, e, h3, h4, r⟩
  · exact Or.inl h0
  · refine Or.inr ⟨g, e, h3, h4, ?_⟩
    rcases h2.2.2 with ⟨_, h0⟩ | ⟨g2, e2, h5, h6, _⟩
    · exact r.below (hm.1 h0)
    · exact r.gr (hm.2 g2 e2) (by omega)
theorem MG.mkBelowP {w w' : World} {bv : Option Addr} {m cm lo2 hi2 B : Nat} {f2 : Nat → Value} (h2 : MG w bv m cm lo2 hi2 f2) (hm : MkP bv w w') (hB : B ≤ w.heap.size) (hlo : B ≤ lo2) : Below B w w' := by
  rcases h2.2.2 with ⟨_, h0⟩ | ⟨g2, e2, h5, h6, _⟩
  · exact (hm.1 h0).mono hB
  · exact gr_to (hm.2 g2 e2) hB (by omega)

end Go.Proofs.Ytdpeopmbboogaaa

namespace Go.Proofs.Ytdpeopmbboogaaa
open Go.ChangeShapes Go.WideShapes Go.ChangeAt Go.RowKit
set_option linter.unusedSimpArgs false
set_option linter.unusedVariables false

/-- A list with short texts, and a number. -/
def OneT (w w' : World) (e : Ending) : Prop := ∃ (bv : Option Addr) (c : Nat) (us : List M1.Upd) (t : Int), e = .returned (.tuple #[.slice bv us.length c, .int .i64 t]) ∧ us.length ≤ 12 ∧ Short us ∧ IsUpds w' bv us.length c us ∧ Below w.heap.size w w'

set_option maxHeartbeats 8000000 in
set_option maxRecDepth 100000 in
theorem drawSpansOf_any (av : Option Addr) (len cap : Nat) (w : World) (h : IsBytes w av len cap) :
    Calls Try.prog 28 #[.slice av len cap] w fun e w' => OneT w w' e := by
  go_enter Try.func28, Try.ntmps28
  go_wp2_with fail
  refine (l1Open_any _ _ _ _ h).mono ?_
  rintro e w1 ⟨rfl, hR1, hb1⟩
  have hgl := hR1.lt
  go_wp2_with fail
  refine (spans_any _ _ _ _ _ _ hR1 (by omega) (by omega)).mono ?_
  rintro e w2 ⟨bv, c, us, rfl, hn, hsh, mu2, hR2, hG2⟩
  have hs2 := hG2.size
  go_wp2_with fail
  refine (below_any _ _ _ _ _ _ hR2 (by omega) (by omega)).mono ?_
  rintro e w3 ⟨x, rfl, x0, x1, hR3, hG3⟩
  have mu3 := mu2.gr hG3 (by omega)
  have hG3' := gr_trans hG2 hG3
  go_wp2_with fail
  refine bodyPost_ret (v := .tuple #[.slice bv us.length c, .int .i64 (1 + x)]) (by simp [results, Try.results28, go_sem]) rfl ?_
  exact ⟨bv, c, us, 1 + x, rfl, by omega, hsh, mu3.upds rfl hsh.max, hb1.trans (gr_to hG3' hb1.size (by omega))⟩

theorem drawForestOf_any (av : Option Addr) (len cap : Nat) (w : World) (h : IsBytes w av len cap) :
    Calls Try.prog 8 #[.slice av len cap] w fun e w' => OneT w w' e := by
  go_enter Try.func8, Try.ntmps8
  go_wp2_with fail
  refine (drawSpansOf_any _ _ _ _ h).mono ?_
  rintro e w1 ⟨bv, c, us, t, rfl, h1, h2, h3, h4⟩
  go_wp2_with fail
  refine bodyPost_ret (v := .tuple #[.slice bv us.length c, .int .i64 t]) (by simp [results, Try.results8, go_sem]) rfl ?_
  exact ⟨bv, c, us, t, rfl, h1, h2, h3, h4⟩

theorem drawLongest_any (av : Option Addr) (len cap : Nat) (w : World) (h : IsBytes w av len cap) :
    Calls Try.prog 14 #[.slice av len cap] w fun e w' => OneT w w' e := by
  go_enter Try.func14, Try.ntmps14
  go_wp2_with fail
  refine (drawSpansOf_any _ _ _ _ h).mono ?_
  rintro e w1 ⟨bv, c, us, t, rfl, h1, h2, h3, h4⟩
  go_wp2_with fail
  refine bodyPost_ret (v := .tuple #[.slice bv us.length c, .int .i64 t]) (by simp [results, Try.results14, go_sem]) rfl ?_
  exact ⟨bv, c, us, t, rfl, h1, h2, h3, h4⟩

end Go.Proofs.Ytdpeopmbboogaaa

namespace M1
/-- The one that bears the number. -/
def fj : List Upd → Int → Option Upd
  | [], _ => none
  | x :: t, i => if x.id = i then some x else fj t i
theorem mpS_none {u : Upd} : ∀ {ms : List Upd}, fj ms u.id = none → mpS ms u = ms ++ [u]
  | [], _ => rfl
  | x :: t, h => by
    unfold fj at h
    by_cases c : x.id = u.id
    · rw [if_pos c] at h; cases h
    · rw [if_neg c] at h
      unfold mpS
      rw [if_neg c, mpS_none h]; rfl
theorem mpS_stay {u x : Upd} : ∀ {ms : List Upd}, fj ms u.id = some x → sah x u = false → mpS ms u = ms
  | [], h, _ => by cases h
  | y :: t, h, hs => by
    unfold fj at h
    by_cases c : y.id = u.id
    · rw [if_pos c] at h; injection h with h; subst h
      unfold mpS
      rw [if_pos c, if_neg (by rw [hs]; simp)]
    · rw [if_neg c] at h
      unfold mpS
      rw [if_neg c, mpS_stay h hs]
/-- The place of the one that bears the number. -/
def pj : List Upd → Int → Nat
  | [], _ => 0
  | x :: t, i => if x.id = i then 0 else pj t i + 1
theorem mpS_over {u x : Upd} : ∀ {ms : List Upd}, fj ms u.id = some x → sah x u = true → mpS ms u = ms.set (pj ms u.id) u ∧ pj ms u.id < ms.length
  | [], h, _ => by cases h
  | y :: t, h, hs => by
    unfold fj at h
    by_cases c : y.id = u.id
    · rw [if_pos c] at h; injection h with h; subst h
      unfold mpS pj
      rw [if_pos c, if_pos hs, if_pos c]
      exact ⟨rfl, by simp⟩
    · rw [if_neg c] at h
      obtain ⟨e, hl⟩ := mpS_over h hs
      unfold mpS pj
      rw [if_neg c, if_neg c, e]
      exact ⟨rfl, by simp; omega⟩
end M1
namespace Go.Proofs.Ytdpeopmbboogaaa
open Go.ChangeShapes Go.WideShapes Go.ChangeAt Go.RowKit
set_option linter.unusedSimpArgs false

/-- Block b is a map by number that has just the updates us; each entry born in its place. -/
def MapJ (w : World) (b : Nat) (us : List M1.Upd) : Prop := ∃ es : Array MapEntry, w.heap[b]? = some (.map es us.length) ∧ es.toList.map (fun e => (e.key, e.val)) = us.map (fun u => (.int .i64 u.id, uv u)) ∧ es.toList.map (·.born) = List.range us.length
theorem MapJ.lt {w : World} {b : Nat} {us : List M1.Upd} (h : MapJ w b us) : b < w.heap.size := by
  obtain ⟨es, hb, _⟩ := h
  exact (Array.getElem?_eq_some_iff.1 hb).1
theorem MapJ.block {w w' : World} {b : Nat} {us : List M1.Upd} (h : MapJ w b us) (e : w'.heap[b]? = w.heap[b]?) : MapJ w' b us := by
  obtain ⟨es, hb, h2⟩ := h
  exact ⟨es, e.trans hb, h2⟩
theorem MapJ.below {w w' : World} {b B : Nat} {us : List M1.Upd} (h : MapJ w b us) (hB : Below B w w') (hb : b < B) : MapJ w' b us := h.block (hB.block b hb)
theorem MapJ.made (w : World) : MapJ (w.alloc (.map #[] 0)) w.heap.size [] := ⟨#[], (MapKept.heap_alloc w _).1, rfl, rfl⟩

theorem findNowJ (x : Int) : ∀ (es : List MapEntry) (us : List M1.Upd) (i : Nat), es.map (fun e => (e.key, e.val)) = us.map (fun u => (.int .i64 u.id, uv u)) →
    Instr.findNow (.int .i64) (.int .i64 x) es i = some ((M1.fj us x).map fun u => (i + M1.pj us x, uv u))
  | [], [], i, _ => rfl
  | [], _ :: _, _, h => by cases h
  | _ :: _, [], _, h => by cases h
  | e :: es, u :: us, i, h => by
    rw [List.map_cons, List.map_cons, List.cons.injEq, Prod.mk.injEq] at h
    obtain ⟨⟨h1, h2⟩, h3⟩ := h
    have ih := findNowJ x es us (i + 1) h3
    unfold Instr.findNow M1.fj M1.pj
    rw [h1]
    by_cases c : u.id = x
    · subst c
      simp [Instr.sameNow, h2]
    · have c' : ¬ x = u.id := fun e => c e.symm
      simp only [Instr.sameNow, if_true, beq_iff_eq, c, c', if_false]
      have hb : (x == u.id) = false := by simp [c']
      rw [hb]
      simp only [ih, if_neg c]
      cases M1.fj us x with
      | none => rfl
      | some y => simp; omega

theorem checkInt (e : Bool) (a : Int) (w : World) : (Instr.checkKey e 10000 2 (.int .i64 a)).run Try.prog w = .ok () w := by
  cases e <;> kernel_rfl

theorem findKeyJ (x : Int) (w : World) (es : List MapEntry) (us : List M1.Upd) (h : es.map (fun e => (e.key, e.val)) = us.map (fun u => (.int .i64 u.id, uv u))) :
    (Instr.findKey 2 (.int .i64 x) es).run Try.prog w = .ok ((M1.fj us x).map fun u => (M1.pj us x, uv u)) w := by
  have := findNowJ x es us 0 h
  unfold Instr.findKey
  simp [run_underlying Try.underlying2, Result.andThen, this]

theorem run_lookupJ {w : World} {b : Nat} {us : List M1.Upd} (h : MapJ w b us) (x : Int) :
    (Instr.lookup 66 (.map (some b)) (.int .i64 x) true).run Try.prog w = .ok (.tuple #[uv ((M1.fj us x).getD M1.zeroU), .bool (M1.fj us x).isSome]) w := by
  obtain ⟨es, hb, h2, _⟩ := h
  have ho1 := findKeyJ x w es.toList us h2
  have hc : ∀ e, (Instr.checkKey e 10000 2 (.int .i64 x)).run Try.prog w = .ok () w := fun e => checkInt e x w
  cases hf : M1.fj us x with
  | none =>
    rw [hf] at ho1
    simp [Instr.lookup, run_underlying Try.underlying66, MapKept.run_getObj_map hb, hc, ho1, zeroUpd, Result.andThen]; rfl
  | some y =>
    rw [hf] at ho1
    simp [Instr.lookup, run_underlying Try.underlying66, MapKept.run_getObj_map hb, hc, ho1, Result.andThen]

theorem run_updateJ_new {w : World} {b : Nat} {us : List M1.Upd} (h : MapJ w b us) (u : M1.Upd) (hf : M1.fj us u.id = none) :
    ∃ w', (Instr.mapUpdate 66 (.map (some b)) (.int .i64 u.id) (uv u)).run Try.prog w = .ok () w' ∧ MapJ w' b (us ++ [u]) ∧ w.grownBy w' (some b) := by
  obtain ⟨es, hb, h2, h3⟩ := h
  have ho1 := findKeyJ u.id w es.toList us h2
  have hc : (Instr.checkKey false 10000 2 (.int .i64 u.id)).run Try.prog w = .ok () w := checkInt _ _ w
  rw [hf] at ho1
  refine ⟨ChangeMaps.setBlock w b (.map (es.push ⟨.int .i64 u.id, uv u, us.length⟩) (us.length + 1)), ?_, ⟨es.push ⟨.int .i64 u.id, uv u, us.length⟩, ?_, ?_, ?_⟩, ⟨rfl, rfl, rfl, by simp [ChangeMaps.setBlock], fun i _ hi => ChangeMaps.heap_setBlock_other hb _ (fun e => hi (by rw [e]))⟩⟩
  · simp [Instr.mapUpdate, run_underlying Try.underlying66, MapKept.run_getObj_map hb, hc, ho1, MapKept.run_setObj_map _ hb, Result.andThen, ChangeMaps.setBlock]
  · rw [ChangeMaps.heap_setBlock_same hb _]; simp
  · simp [h2]
  · simp [h3, List.range_succ]

theorem keyOfJ {us : List M1.Upd} {x : Int} {y : M1.Upd} : ∀ {es : List MapEntry} {vs : List M1.Upd}, es.map (fun e => (e.key, e.val)) = vs.map (fun u => (.int .i64 u.id, uv u)) → M1.fj vs x = some y → (es[M1.pj vs x]?).map (·.key) = some (.int .i64 x)
  | [], [], _, h => by cases h
  | [], _ :: _, h, _ => by cases h
  | _ :: _, [], h, _ => by cases h
  | e :: es, v :: vs, h, hf => by
    rw [List.map_cons, List.map_cons, List.cons.injEq, Prod.mk.injEq] at h
    obtain ⟨⟨h1, h2⟩, h3⟩ := h
    unfold M1.fj at hf
    unfold M1.pj
    by_cases c : v.id = x
    · rw [if_pos c]; simp [h1, c]
    · rw [if_neg c] at hf ⊢
      simpa using keyOfJ (us := us) h3 hf

theorem run_updateJ_over {w : World} {b : Nat} {us : List M1.Upd} (h : MapJ w b us) (u y : M1.Upd) (hf : M1.fj us u.id = some y) :
    ∃ w', (Instr.mapUpdate 66 (.map (some b)) (.int .i64 u.id) (uv u)).run Try.prog w = .ok () w' ∧ MapJ w' b (us.set (M1.pj us u.id) u) ∧ w.grownBy w' (some b) := by
  obtain ⟨es, hb, h2, h3⟩ := h
  have ho1 := findKeyJ u.id w es.toList us h2
  have hc : (Instr.checkKey false 10000 2 (.int .i64 u.id)).run Try.prog w = .ok () w := checkInt _ _ w
  have hk := keyOfJ (us := us) h2 hf
  have hk2 : (((es[M1.pj us u.id]?).map (·.key)).getD (.int .i64 u.id)) = .int .i64 u.id := by
    rw [← Array.getElem?_toList, hk]; rfl
  have hst : (Instr.keyThatStays (.int .i64 u.id) (.int .i64 u.id)).run Try.prog w = .ok (.int .i64 u.id) w := by
    have hsb : Instr.sameBits 10000 (.int .i64 u.id) (.int .i64 u.id) = true := by simp [Instr.sameBits]
    simp [Instr.keyThatStays, hsb]
  rw [hf] at ho1
  refine ⟨ChangeMaps.setBlock w b (.map (es.modify (M1.pj us u.id) fun e => { e with key := .int .i64 u.id, val := uv u }) us.length), ?_, ⟨es.modify (M1.pj us u.id) fun e => { e with key := .int .i64 u.id, val := uv u }, ?_, ?_, ?_⟩, ⟨rfl, rfl, rfl, by simp [ChangeMaps.setBlock], fun i _ hi => ChangeMaps.heap_setBlock_other hb _ (fun e => hi (by rw [e]))⟩⟩
  · simp [Instr.mapUpdate, run_underlying Try.underlying66, MapKept.run_getObj_map hb, hc, ho1, hk2, hst, MapKept.run_setObj_map _ hb, Result.andThen, ChangeMaps.setBlock]
  · rw [ChangeMaps.heap_setBlock_same hb _]; simp
  · apply List.ext_getElem?
    intro i
    have q := congrArg (fun l => l[i]?) h2
    simp only [List.getElem?_map] at q
    simp only [Array.toList_modify, List.getElem?_map, List.getElem?_modify, List.getElem?_set]
    by_cases e : M1.pj us u.id = i
    · subst e
      cases hx : es.toList[M1.pj us u.id]? with
      | none => rw [hx] at hk; cases hk
      | some z =>
        rw [hx] at q
        have hl : M1.pj us u.id < us.length := by
          cases hy : us[M1.pj us u.id]? with
          | none => rw [hy] at q; cases q
          | some _ => exact (List.getElem?_eq_some_iff.1 hy).1
        simp [hl]
    · first | (simp [e]; exact q) | (simp [e, ← q]) | (simp [e]; simpa using q)
  · have e : (es.modify (M1.pj us u.id) fun e => { e with key := .int .i64 u.id, val := uv u }).toList.map (·.born) = es.toList.map (·.born) := by
      apply List.ext_getElem?
      intro i
      simp only [Array.toList_modify, List.getElem?_map, List.getElem?_modify]
      by_cases e : M1.pj us u.id = i
      · simp [e]; cases es.toList[i]? <;> rfl
      · simp [e]
    rw [e, h3]; simp
end Go.Proofs.Ytdpeopmbboogaaa
