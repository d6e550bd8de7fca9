/-
  Texts of one proof, joined: MapS, Told1, SortSL, Sp3.
-/
import Derived.Test.YtdpeopmbboogaaaZLongest25
import Derived.Test.YtdpeopmbboogaaaZLongest30
import Derived.Test.YtdpeopmbboogaaaZLongest06
import Derived.Test.YtdpeopmbboogaaaZLongest04
import Derived.Sort.Grow
import Derived.Deep.Draws
import Derived.Shelf.SlSortCmp.WholeK
import Derived.Ground.SlsfProg
import Derived.Test.YtdpeopmbboogaaaProg
import Derived.Test.YtdpeopmbboogaaaZLongest22
import Derived.Test.YtdpeopmbboogaaaZLongest23
import Derived.Shelf.SlSortCmp.NoneTotal
namespace Go.Proofs.Ytdpeopmbboogaaa
open Go.ChangeShapes Go.WideShapes Go.ChangeAt Go.RowKit
set_option linter.unusedSimpArgs false

/-- A span, of an update. -/
def spv (u : M1.Upd) : Value := .agg #[.int .i64 u.id, .int .i64 u.pa, .string u.s, .int .i64 u.st, .int .i64 u.en]
theorem zeroSpn (w : World) : (zeroValue 34).run Try.prog w = .ok (spv M1.zeroU) w := by kernel_rfl

/-- Block b is a map by number that has just the spans of us; each entry born in its place. -/
def MapS (w : World) (b : Nat) (us : List M1.Upd) : Prop := ∃ es : Array MapEntry, w.heap[b]? = some (.map es us.length) ∧ es.toList.map (fun e => (e.key, e.val)) = us.map (fun u => (.int .i64 u.id, spv u)) ∧ es.toList.map (·.born) = List.range us.length
theorem MapS.lt {w : World} {b : Nat} {us : List M1.Upd} (h : MapS w b us) : b < w.heap.size := by
  obtain ⟨es, hb, _⟩ := h
  exact (Array.getElem?_eq_some_iff.1 hb).1
theorem MapS.block {w w' : World} {b : Nat} {us : List M1.Upd} (h : MapS w b us) (e : w'.heap[b]? = w.heap[b]?) : MapS w' b us := by
  obtain ⟨es, hb, h2⟩ := h
  exact ⟨es, e.trans hb, h2⟩
theorem MapS.below {w w' : World} {b B : Nat} {us : List M1.Upd} (h : MapS w b us) (hB : Below B w w') (hb : b < B) : MapS w' b us := h.block (hB.block b hb)
theorem MapS.made (w : World) : MapS (w.alloc (.map #[] 0)) w.heap.size [] := ⟨#[], (MapKept.heap_alloc w _).1, rfl, rfl⟩

theorem findNowS (x : Int) : ∀ (es : List MapEntry) (us : List M1.Upd) (i : Nat), es.map (fun e => (e.key, e.val)) = us.map (fun u => (.int .i64 u.id, spv u)) →
    Instr.findNow (.int .i64) (.int .i64 x) es i = some ((M1.fj us x).map fun u => (i + M1.pj us x, spv u))
  | [], [], i, _ => rfl
  | [], _ :: _, _, h => by cases h
  | _ :: _, [], _, h => by cases h
  | e :: es, u :: us, i, h => by
    rw [List.map_cons, List.map_cons, List.cons.injEq, Prod.mk.injEq] at h
    obtain ⟨⟨h1, h2⟩, h3⟩ := h
    have ih := findNowS x es us (i + 1) h3
    unfold Instr.findNow M1.fj M1.pj
    rw [h1]
    by_cases c : u.id = x
    · subst c
      simp [Instr.sameNow, h2]
    · have c' : ¬ x = u.id := fun e => c e.symm
      simp only [Instr.sameNow, if_true, beq_iff_eq, c, c', if_false]
      have hb : (x == u.id) = false := by simp [c']
      rw [hb]
      simp only [ih, if_neg c]
      cases M1.fj us x with
      | none => rfl
      | some y => simp; omega

theorem checkIntS (e : Bool) (a : Int) (w : World) : (Instr.checkKey e 10000 2 (.int .i64 a)).run Try.prog w = .ok () w := by
  cases e <;> kernel_rfl

theorem findKeyS (x : Int) (w : World) (es : List MapEntry) (us : List M1.Upd) (h : es.map (fun e => (e.key, e.val)) = us.map (fun u => (.int .i64 u.id, spv u))) :
    (Instr.findKey 2 (.int .i64 x) es).run Try.prog w = .ok ((M1.fj us x).map fun u => (M1.pj us x, spv u)) w := by
  have := findNowS x es us 0 h
  unfold Instr.findKey
  simp [run_underlying Try.underlying2, Result.andThen, this]

theorem run_lookupS {w : World} {b : Nat} {us : List M1.Upd} (h : MapS w b us) (x : Int) :
    (Instr.lookup 48 (.map (some b)) (.int .i64 x) true).run Try.prog w = .ok (.tuple #[spv ((M1.fj us x).getD M1.zeroU), .bool (M1.fj us x).isSome]) w := by
  obtain ⟨es, hb, h2, _⟩ := h
  have ho1 := findKeyS x w es.toList us h2
  have hc : ∀ e, (Instr.checkKey e 10000 2 (.int .i64 x)).run Try.prog w = .ok () w := fun e => checkIntS e x w
  cases hf : M1.fj us x with
  | none =>
    rw [hf] at ho1
    simp [Instr.lookup, run_underlying Try.underlying48, MapKept.run_getObj_map hb, hc, ho1, zeroSpn, Result.andThen]; rfl
  | some y =>
    rw [hf] at ho1
    simp [Instr.lookup, run_underlying Try.underlying48, MapKept.run_getObj_map hb, hc, ho1, Result.andThen]

theorem run_updateS_new {w : World} {b : Nat} {us : List M1.Upd} (h : MapS w b us) (u : M1.Upd) (hf : M1.fj us u.id = none) :
    ∃ w', (Instr.mapUpdate 48 (.map (some b)) (.int .i64 u.id) (spv u)).run Try.prog w = .ok () w' ∧ MapS w' b (us ++ [u]) ∧ w.grownBy w' (some b) := by
  obtain ⟨es, hb, h2, h3⟩ := h
  have ho1 := findKeyS u.id w es.toList us h2
  have hc : (Instr.checkKey false 10000 2 (.int .i64 u.id)).run Try.prog w = .ok () w := checkIntS _ _ w
  rw [hf] at ho1
  refine ⟨ChangeMaps.setBlock w b (.map (es.push ⟨.int .i64 u.id, spv u, us.length⟩) (us.length + 1)), ?_, ⟨es.push ⟨.int .i64 u.id, spv u, us.length⟩, ?_, ?_, ?_⟩, ⟨rfl, rfl, rfl, by simp [ChangeMaps.setBlock], fun i _ hi => ChangeMaps.heap_setBlock_other hb _ (fun e => hi (by rw [e]))⟩⟩
  · simp [Instr.mapUpdate, run_underlying Try.underlying48, MapKept.run_getObj_map hb, hc, ho1, MapKept.run_setObj_map _ hb, Result.andThen, ChangeMaps.setBlock]
  · rw [ChangeMaps.heap_setBlock_same hb _]; simp
  · simp [h2]
  · simp [h3, List.range_succ]

end Go.Proofs.Ytdpeopmbboogaaa

namespace Go.Proofs.Ytdpeopmbboogaaa
open Go.ChangeShapes Go.WideShapes Go.ChangeAt Go.RowKit Go.Sort
set_option linter.unusedSimpArgs false
set_option linter.unusedVariables false

/-- Blocks laid and draws made, nothing else. -/
def Grew (w w' : World) : Prop := ∃ q os', w' = grow (w.drewN q) os'
theorem Grew.refl (w : World) : Grew w w := ⟨0, #[], by simp [grow, World.drewN]⟩
theorem Grew.alloc {w w' : World} (h : Grew w w') (o : Obj) : Grew w (w'.alloc o) := by
  obtain ⟨q, os', rfl⟩ := h
  exact ⟨q, os' ++ #[o], by rw [alloc_eq_grow, grow_grow]⟩
theorem Grew.drew {w w' : World} (h : Grew w w') : Grew w w'.drew := by
  obtain ⟨q, os', rfl⟩ := h
  exact ⟨q + 1, os', by simp [grow, World.drewN, World.drew, Nat.add_assoc]⟩
theorem Grew.trans {w w' w'' : World} (h : Grew w w') (h2 : Grew w' w'') : Grew w w'' := by
  obtain ⟨q, os', rfl⟩ := h
  obtain ⟨q2, os2, rfl⟩ := h2
  exact ⟨q + q2, os' ++ os2, by simp [grow, World.drewN, Array.append_assoc, Nat.add_assoc]⟩

end Go.Proofs.Ytdpeopmbboogaaa

namespace Go.Proofs
open Go.Shelf
def Try.sortS_ren : Go.Shelf.Ren := ⟨fun | 6 => 43 | 15 => 70 | 14 => 69 | 28 => 101 | 29 => 102 | 20 => 93 | 21 => 94 | 22 => 95 | 23 => 96 | 24 => 97 | 25 => 98 | 26 => 99 | 27 => 100 | 46 => 106 | 47 => 107 | 48 => 108 | 49 => 109 | 50 => 110 | 57 => 112 | n => n, fun | 22 => 31 | 24 => 34 | 25 => 74 | 3 => 3 | 39 => 101 | 0 => 0 | 53 => 135 | 55 => 137 | 4 => 4 | 46 => 128 | 45 => 127 | 50 => 132 | 5 => 5 | 9 => 9 | 66 => 147 | 70 => 151 | 76 => 153 | 77 => 154 | n => n, fun | n => n⟩
theorem Try.sortS : Go.Proofs.SlLaysF0.n6 Try.prog Try.sortS_ren := {
  mixed := by kernel_rfl
  f6 := ⟨Try.f43.name, by decide, Try.func43.trans (congrArg some (by kernel_rfl))⟩
  f14 := ⟨Try.f69.name, by decide, Try.func69.trans (congrArg some (by kernel_rfl))⟩
  f15 := Try.func70.trans (congrArg some (by kernel_rfl))
  f20 := ⟨Try.f93.name, by decide, Try.func93.trans (congrArg some (by kernel_rfl))⟩
  f21 := ⟨Try.f94.name, by decide, Try.func94.trans (congrArg some (by kernel_rfl))⟩
  f22 := ⟨Try.f95.name, by decide, Try.func95.trans (congrArg some (by kernel_rfl))⟩
  f23 := ⟨Try.f96.name, by decide, Try.func96.trans (congrArg some (by kernel_rfl))⟩
  f24 := ⟨Try.f97.name, by decide, Try.func97.trans (congrArg some (by kernel_rfl))⟩
  f25 := ⟨Try.f98.name, by decide, Try.func98.trans (congrArg some (by kernel_rfl))⟩
  f26 := ⟨Try.f99.name, by decide, Try.func99.trans (congrArg some (by kernel_rfl))⟩
  f27 := ⟨Try.f100.name, by decide, Try.func100.trans (congrArg some (by kernel_rfl))⟩
  f28 := Try.func101.trans (congrArg some (by kernel_rfl))
  f29 := Try.func102.trans (congrArg some (by kernel_rfl))
  f46 := ⟨Try.f106.name, by decide, Try.func106.trans (congrArg some (by kernel_rfl))⟩
  f47 := Try.func107.trans (congrArg some (by kernel_rfl))
  f48 := Try.func108.trans (congrArg some (by kernel_rfl))
  f49 := ⟨Try.f109.name, by decide, Try.func109.trans (congrArg some (by kernel_rfl))⟩
  f50 := ⟨Try.f110.name, by decide, Try.func110.trans (congrArg some (by kernel_rfl))⟩
  f57 := ⟨Try.f112.name, by decide, Try.func112.trans (congrArg some (by kernel_rfl))⟩
  t0 := Try.underlying0
  a0 := Try.isAgg0
  z0 := Try.sizeOf0
  v0 := Try.zeroValue0
  t3 := Try.underlying3
  a3 := Try.isAgg3
  z3 := Try.sizeOf3
  v3 := Try.zeroValue3
  t4 := Try.underlying4
  a4 := Try.isAgg4
  z4 := Try.sizeOf4
  v4 := Try.zeroValue4
  t5 := Try.underlying5
  a5 := Try.isAgg5
  z5 := Try.sizeOf5
  v5 := Try.zeroValue5
  t9 := Try.underlying9
  a9 := Try.isAgg9
  z9 := Try.sizeOf9
  v9 := Try.zeroValue9
  t22 := Try.underlying31
  a22 := Try.isAgg31
  z22 := Try.sizeOf31
  v22 := Try.zeroValue31
  t25 := Try.underlying74
  a25 := Try.isAgg74
  z25 := Try.sizeOf74
  v25 := Try.zeroValue74
  t39 := Try.underlying101
  a39 := Try.isAgg101
  z39 := Try.sizeOf101
  v39 := Try.zeroValue101
  t45 := Try.underlying127
  a45 := Try.isAgg127
  z45 := Try.sizeOf127
  v45 := Try.zeroValue127
  t46 := Try.underlying128
  a46 := Try.isAgg128
  z46 := Try.sizeOf128
  v46 := Try.zeroValue128
  t50 := Try.underlying132
  a50 := Try.isAgg132
  z50 := Try.sizeOf132
  v50 := Try.zeroValue132
  t53 := Try.underlying135
  a53 := Try.isAgg135
  z53 := Try.sizeOf135
  v53 := Try.zeroValue135
  t55 := Try.underlying137
  a55 := Try.isAgg137
  z55 := Try.sizeOf137
  v55 := Try.zeroValue137
  t66 := Try.underlying147
  a66 := Try.isAgg147
  z66 := Try.sizeOf147
  v66 := Try.zeroValue147
  t70 := Try.underlying151
  a70 := Try.isAgg151
  z70 := Try.sizeOf151
  v70 := Try.zeroValue151
  t76 := Try.underlying153
  a76 := Try.isAgg153
  z76 := Try.sizeOf153
  v76 := Try.zeroValue153
  t77 := Try.underlying154
  a77 := Try.isAgg154
  z77 := Try.sizeOf154
  v77 := Try.zeroValue154 }
end Go.Proofs

namespace Go.Proofs.Ytdpeopmbboogaaa
open Go.ChangeShapes Go.WideShapes Go.ChangeAt Go.RowKit Go.Sort Go.Shelf Go.Lib
set_option linter.unusedSimpArgs false
set_option linter.unusedVariables false

instance inhUpdS : Inhabited M1.Upd := ⟨M1.zeroU⟩

theorem oneS (u : M1.Upd) : ∀ v ∈ scs u, v.oneCell' = true := by
  intro v hv
  simp [scs] at hv
  rcases hv with rfl | rfl | rfl | rfl | rfl <;> rfl

set_option maxHeartbeats 2000000 in
theorem spans1_grew (u v : M1.Upd) (w : World) :
    Calls Try.prog 44 #[.agg #[.int .i64 u.id, .int .i64 u.pa, .string u.s, .int .i64 u.st, .int .i64 u.en], .agg #[.int .i64 v.id, .int .i64 v.pa, .string v.s, .int .i64 v.st, .int .i64 v.en]] w fun e w' => e = .returned (.int .i64 (M1.cmpI u.id v.id)) ∧ Grew w w' := by
  go_enter Try.func44, Try.ntmps44
  go_wp2_with fail
  refine (compare_any _ _ _).mono ?_
  rintro e w1 ⟨rfl, hb1⟩
  subst hb1
  go_wp2_with fail
  go_ret
  refine ⟨rfl, ?_⟩
  repeat (first | exact Grew.refl _ | refine Grew.drew ?_ | refine Grew.alloc ?_ _)
theorem isAggS (w : World) : (isAgg 34).run Try.prog w = .ok true w := by kernel_rfl
theorem sizeOfS (w : World) : (Go.sizeOf 34).run Try.prog w = .ok 5 w := by kernel_rfl

/-- The order of the numbers, as the closure tells it. -/
def ordS (u v : M1.Upd) : Int := M1.cmpI u.id v.id
theorem ltS (u v : M1.Upd) : ltOf ordS u v = decide (u.id < v.id) := by
  unfold ltOf ordS M1.cmpI
  split
  · simp; omega
  · split <;> simp <;> omega
theorem swoS : SWO (ltOf ordS) where
  irrefl x := by rw [ltS]; simp
  trans x y z h1 h2 := by rw [ltS] at *; simp at *; omega
  ntrans x y z h1 h2 := by rw [ltS] at *; simp at *; omega

theorem cmpS (blk off size : Nat) (w : World) : CmpLays Try.prog 44 #[] scs 5 ordS blk off size w :=
  fun _ _ _ _ x y => spans1_grew x y _

theorem up_toArrayS (us : List M1.Upd) (i : Nat) : us.toArray[i]! = M1.up us i := by
  unfold M1.up
  by_cases h : i < us.length
  · simp [h, List.getD]
  · simp [h, List.getD]; rfl

theorem holdsS {w : World} {blk : Nat} {us : List M1.Upd} (h : RowAt w blk (us.length * 5) (scell us)) : HoldsK scs 5 w blk 0 us.toArray := by
  intro j hj
  have hj' : j < us.length * 5 := by simpa using hj
  have e : (flatK scs 5 us.toArray)[j]! = scell us j := by
    rw [get_flatK scs 5 us.toArray j (by simpa using hj'), up_toArrayS]
    unfold scell
    have : j % 5 < (scs (M1.up us (j / 5))).length := by show j % 5 < 5; omega
    simp [List.getD, this]
  rw [Nat.zero_add, e]
  exact ⟨h.cell hj', h.free hj'⟩
theorem ofHoldsS {w : World} {blk : Nat} {us : List M1.Upd} (h : HoldsK scs 5 w blk 0 us.toArray) (hb : blk < w.heap.size) : RowAt w blk (us.length * 5) (scell us) := by
  refine ⟨hb, fun j hj => ?_⟩
  have hq := h j (by simpa using hj)
  have e : (flatK scs 5 us.toArray)[j]! = scell us j := by
    rw [get_flatK scs 5 us.toArray j (by simpa using hj), up_toArrayS]
    unfold scell
    have : j % 5 < (scs (M1.up us (j / 5))).length := by show j % 5 < 5; omega
    simp [List.getD, this]
  rw [Nat.zero_add, e] at hq
  exact hq
theorem grSortS (w : World) (blk n : Nat) (d : Array M1.Upd) (os : Array Obj) : Gr blk w (sortWorldK scs 5 w blk 0 n d os) := by
  refine ⟨rfl, rfl, rfl, by simp [sortWorldK, grow, putRowK, putRow, mapBlock, ahead], fun k hk hn => ?_⟩
  have hne : ¬ blk = k := fun e => hn (by rw [e])
  show ((w.heap.modify blk (onCells (putCells id 0 (flatK scs 5 d)))) ++ os)[k]? = w.heap[k]?
  rw [Array.getElem?_append_left (by simpa using hk), Array.getElem?_modify]
  simp [hne]

theorem sortS_any (blk cap : Nat) (us : List M1.Upd) (w : World) (hrow : RowAt w blk (us.length * 5) (scell us)) (hn : us.length ≤ 1048576) :
    Calls Try.prog 43 #[.slice (some ⟨blk, 0, none⟩) us.length cap, .func (.func 44) #[] #[]] w fun e w' => e = .returned (.tuple #[]) ∧ ∃ ns : List M1.Upd, ns.Perm us ∧ (∀ i j, i < j → j < ns.length → ¬ (M1.up ns j).id < (M1.up ns i).id) ∧ RowAt w' blk (us.length * 5) (scell ns) ∧ Gr blk w w' := by
  have eg : ∀ args w, (callFunc 44 args).run Try.prog w = .ok (.enter 44 args) w := enters_of Try.func44 (by kernel_rfl) rfl
  have hcon := AnyQ.slices_SortFunc Try.sortS 5 isAggS sizeOfS scs (fun _ => rfl) oneS ordS swoS 44 #[] blk 0 cap us.toArray w eg (cmpS blk 0 _ w) (holdsS hrow) hrow.lt (by simp; omega)
  simp only [List.size_toArray] at hcon
  refine Calls.mono hcon ?_
  rintro e w' ⟨rfl, d', n, os, hp, hs, rfl⟩
  obtain ⟨h1, _, h3⟩ := hp
  have hsz : d'.size = us.length := by simpa using h1
  have e1 : d'.extract 0 us.length = d' := by rw [← hsz]; simp
  have e2 : us.toArray.extract 0 us.length = us.toArray := by simp
  rw [e1, e2] at h3
  have hl : d'.toList.length = us.length := by simpa using hsz
  refine ⟨rfl, d'.toList, by simpa using h3, fun i j hij hj => ?_, ?_, grSortS _ _ _ _ _⟩
  · have := hs i j (Nat.zero_le _) hij (by omega)
    rw [ltS] at this
    have ea : ∀ i, d'[i]! = M1.up d'.toList i := fun i => by
      have := up_toArrayS d'.toList i
      simpa using this
    rw [ea, ea] at this
    simpa using this
  · rw [← hl]
    refine ofHoldsS ?_ ?_
    · have := holdsK_sortWorldK_c (enc := scs) (k := 5) (w := w) (blk := blk) (off := 0) us.toArray d' n os (holdsS hrow) hrow.lt (by simpa using hsz)
      simpa using this
    · have := size_sortWorldK_c (enc := scs) (k := 5) (w := w) (blk := blk) (off := 0) n d' os
      have h2 := hrow.lt
      omega

theorem sortS_none (p : Option Addr) (cap : Nat) (fv : Value) (w : World) :
    Calls Try.prog 43 #[.slice p 0 cap, fv] w fun e w' => e = .returned (.tuple #[]) ∧ w' = w := AnyF.slices_SortFunc_none Try.sortS p cap fv w
end Go.Proofs.Ytdpeopmbboogaaa
