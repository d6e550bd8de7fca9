/-
  Texts of one proof, joined: Math26, MapS.
-/
import Derived.Test.YtdpeopmbboogaaaZForest37
import Derived.Test.YtdpeopmbboogaaaZForest26
import Derived.Test.YtdpeopmbboogaaaZForest31
namespace M1
/-- The same span, field by field. -/
def seq (a b : Upd) : Bool := decide (a.id = b.id ∧ a.pa = b.pa ∧ a.s.toList = b.s.toList ∧ a.st = b.st ∧ a.en = b.en)
end M1
namespace Go.Proofs.Ytdpeopmbboogaaa
theorem nd_mem {O : List (M1.Upd × Int)} {j : Nat} (h : j < O.length) : nd O j ∈ O := List.mem_of_getElem? (nd_some h)
/-- Each span stands at one place. -/
theorem for_place {S : List M1.Upd} {O : List (M1.Upd × Int)} (hS : S.Pairwise M1.idlt) (hO : M1.forest S = O) {i : Nat} (hi : i < S.length) : ∃ p, p < O.length ∧ ∀ j, j < O.length → M1.seq (nd O j).1 (M1.up S i) = decide (j = p) := by
  subst hO
  obtain ⟨D, hD⟩ := M1.for_all hS (M1.up_in hi)
  obtain ⟨p, hp, e⟩ := List.getElem_of_mem hD
  refine ⟨p, hp, fun j hj => ?_⟩
  have ep : nd (M1.forest S) p = (M1.up S i, D) := by
    have := nd_some hp
    rw [List.getElem?_eq_getElem hp, e] at this
    injection this with e2
    exact e2.symm
  by_cases c : j = p
  · subst c
    rw [ep]
    simp [M1.seq]
  · have hn : (M1.idsO (M1.forest S)).Nodup := M1.nd_for hS _ (Nat.le_refl _)
    unfold M1.idsO List.Nodup at hn
    rw [List.pairwise_map, List.pairwise_iff_getElem] at hn
    have hne : ¬ (nd (M1.forest S) j).1.id = (nd (M1.forest S) p).1.id := by
      have ej : nd (M1.forest S) j = (M1.forest S)[j] := by
        have := nd_some hj
        rw [List.getElem?_eq_getElem hj] at this
        injection this with e2
        exact e2.symm
      have ep2 : nd (M1.forest S) p = (M1.forest S)[p] := by
        have := nd_some hp
        rw [List.getElem?_eq_getElem hp] at this
        injection this with e2
        exact e2.symm
      rw [ej, ep2]
      rcases Nat.lt_or_gt_of_ne c with h | h
      · exact hn j p hj hp h
      · exact fun e => hn p j hp hj h e.symm
    rw [ep] at hne
    unfold M1.seq
    rw [decide_eq_false c]
    exact decide_eq_false fun h => hne h.1
/-- Below its parent: what the law goes back to. -/
theorem for_und {S : List M1.Upd} {O : List (M1.Upd × Int)} (hO : M1.forest S = O) {k : Nat} (hk : k < O.length) (hd : ¬ (nd O k).2 = 0) : ∃ a, a < k ∧ (nd O a).2 = (nd O k).2 - 1 ∧ (nd O a).1.id = (nd O k).1.pa ∧ ∀ j, a < j → j < k → (nd O k).2 ≤ (nd O j).2 := by
  have h := M1.ord_forest S
  rw [hO] at h
  rcases (h k _ (nd_some hk)).2 with e | ⟨a, p, h1, h2, h3, h4, h5⟩
  · exact absurd e hd
  · have ep : nd O a = p := by
      have := nd_some (O := O) (k := a) (by omega)
      rw [h2] at this
      injection this with e
      exact e.symm
    exact ⟨a, h1, by rw [ep]; exact h3, by rw [ep]; exact h4, fun j hj hj2 => h5 j _ hj hj2 (nd_some (by omega))⟩
theorem for_parent {S : List M1.Upd} {O : List (M1.Upd × Int)} (hS : S.Pairwise M1.idlt) (hO : M1.forest S = O) {k : Nat} (hk : k < O.length) (hd : ¬ (nd O k).2 = 0) : ∃ j, j < S.length ∧ (M1.up S j).id = (nd O k).1.pa := by
  obtain ⟨a, h1, _, h3, _⟩ := for_und hO hk hd
  have hm : (nd O a).1 ∈ S := by
    have := nd_mem (O := O) (j := a) (by omega)
    rw [← hO] at this ⊢
    exact M1.for_mem hS this
  obtain ⟨j, hj, e⟩ := M1.in_up hm
  exact ⟨j, hj, by rw [← e]; exact h3⟩
end Go.Proofs.Ytdpeopmbboogaaa

namespace Go.Proofs.Ytdpeopmbboogaaa
open Go.ChangeShapes Go.WideShapes Go.ChangeAt Go.RowKit
set_option linter.unusedSimpArgs false

/-- A span, of an update. -/
def spv (u : M1.Upd) : Value := .agg #[.int .i64 u.id, .int .i64 u.pa, .string u.s, .int .i64 u.st, .int .i64 u.en]
theorem zeroSpn (w : World) : (zeroValue 34).run Try.prog w = .ok (spv M1.zeroU) w := by kernel_rfl

/-- Block b is a map by number that has just the spans of us; each entry born in its place. -/
def MapS (w : World) (b : Nat) (us : List M1.Upd) : Prop := ∃ es : Array MapEntry, w.heap[b]? = some (.map es us.length) ∧ es.toList.map (fun e => (e.key, e.val)) = us.map (fun u => (.int .i64 u.id, spv u)) ∧ es.toList.map (·.born) = List.range us.length
theorem MapS.lt {w : World} {b : Nat} {us : List M1.Upd} (h : MapS w b us) : b < w.heap.size := by
  obtain ⟨es, hb, _⟩ := h
  exact (Array.getElem?_eq_some_iff.1 hb).1
theorem MapS.block {w w' : World} {b : Nat} {us : List M1.Upd} (h : MapS w b us) (e : w'.heap[b]? = w.heap[b]?) : MapS w' b us := by
  obtain ⟨es, hb, h2⟩ := h
  exact ⟨es, e.trans hb, h2⟩
theorem MapS.below {w w' : World} {b B : Nat} {us : List M1.Upd} (h : MapS w b us) (hB : Below B w w') (hb : b < B) : MapS w' b us := h.block (hB.block b hb)
theorem MapS.made (w : World) : MapS (w.alloc (.map #[] 0)) w.heap.size [] := ⟨#[], (MapKept.heap_alloc w _).1, rfl, rfl⟩

theorem findNowS (x : Int) : ∀ (es : List MapEntry) (us : List M1.Upd) (i : Nat), es.map (fun e => (e.key, e.val)) = us.map (fun u => (.int .i64 u.id, spv u)) →
    Instr.findNow (.int .i64) (.int .i64 x) es i = some ((M1.fj us x).map fun u => (i + M1.pj us x, spv u))
  | [], [], i, _ => rfl
  | [], _ :: _, _, h => by cases h
  | _ :: _, [], _, h => by cases h
  | e :: es, u :: us, i, h => by
    rw [List.map_cons, List.map_cons, List.cons.injEq, Prod.mk.injEq] at h
    obtain ⟨⟨h1, h2⟩, h3⟩ := h
    have ih := findNowS x es us (i + 1) h3
    unfold Instr.findNow M1.fj M1.pj
    rw [h1]
    by_cases c : u.id = x
    · subst c
      simp [Instr.sameNow, h2]
    · have c' : ¬ x = u.id := fun e => c e.symm
      simp only [Instr.sameNow, if_true, beq_iff_eq, c, c', if_false]
      have hb : (x == u.id) = false := by simp [c']
      rw [hb]
      simp only [ih, if_neg c]
      cases M1.fj us x with
      | none => rfl
      | some y => simp; omega

theorem checkIntS (e : Bool) (a : Int) (w : World) : (Instr.checkKey e 10000 2 (.int .i64 a)).run Try.prog w = .ok () w := by
  cases e <;> kernel_rfl

theorem findKeyS (x : Int) (w : World) (es : List MapEntry) (us : List M1.Upd) (h : es.map (fun e => (e.key, e.val)) = us.map (fun u => (.int .i64 u.id, spv u))) :
    (Instr.findKey 2 (.int .i64 x) es).run Try.prog w = .ok ((M1.fj us x).map fun u => (M1.pj us x, spv u)) w := by
  have := findNowS x es us 0 h
  unfold Instr.findKey
  simp [run_underlying Try.underlying2, Result.andThen, this]

theorem run_lookupS {w : World} {b : Nat} {us : List M1.Upd} (h : MapS w b us) (x : Int) :
    (Instr.lookup 48 (.map (some b)) (.int .i64 x) true).run Try.prog w = .ok (.tuple #[spv ((M1.fj us x).getD M1.zeroU), .bool (M1.fj us x).isSome]) w := by
  obtain ⟨es, hb, h2, _⟩ := h
  have ho1 := findKeyS x w es.toList us h2
  have hc : ∀ e, (Instr.checkKey e 10000 2 (.int .i64 x)).run Try.prog w = .ok () w := fun e => checkIntS e x w
  cases hf : M1.fj us x with
  | none =>
    rw [hf] at ho1
    simp [Instr.lookup, run_underlying Try.underlying48, MapKept.run_getObj_map hb, hc, ho1, zeroSpn, Result.andThen]; rfl
  | some y =>
    rw [hf] at ho1
    simp [Instr.lookup, run_underlying Try.underlying48, MapKept.run_getObj_map hb, hc, ho1, Result.andThen]

theorem run_updateS_new {w : World} {b : Nat} {us : List M1.Upd} (h : MapS w b us) (u : M1.Upd) (hf : M1.fj us u.id = none) :
    ∃ w', (Instr.mapUpdate 48 (.map (some b)) (.int .i64 u.id) (spv u)).run Try.prog w = .ok () w' ∧ MapS w' b (us ++ [u]) ∧ w.grownBy w' (some b) := by
  obtain ⟨es, hb, h2, h3⟩ := h
  have ho1 := findKeyS u.id w es.toList us h2
  have hc : (Instr.checkKey false 10000 2 (.int .i64 u.id)).run Try.prog w = .ok () w := checkIntS _ _ w
  rw [hf] at ho1
  refine ⟨ChangeMaps.setBlock w b (.map (es.push ⟨.int .i64 u.id, spv u, us.length⟩) (us.length + 1)), ?_, ⟨es.push ⟨.int .i64 u.id, spv u, us.length⟩, ?_, ?_, ?_⟩, ⟨rfl, rfl, rfl, by simp [ChangeMaps.setBlock], fun i _ hi => ChangeMaps.heap_setBlock_other hb _ (fun e => hi (by rw [e]))⟩⟩
  · simp [Instr.mapUpdate, run_underlying Try.underlying48, MapKept.run_getObj_map hb, hc, ho1, MapKept.run_setObj_map _ hb, Result.andThen, ChangeMaps.setBlock]
  · rw [ChangeMaps.heap_setBlock_same hb _]; simp
  · simp [h2]
  · simp [h3, List.range_succ]

end Go.Proofs.Ytdpeopmbboogaaa
