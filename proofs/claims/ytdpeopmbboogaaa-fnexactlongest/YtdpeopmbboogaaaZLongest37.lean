/-
  The program's sort of spans: a permutation of what the row held, in the order of their numbers; nothing but the row has turned.
-/
import Derived.Test.YtdpeopmbboogaaaZLongest36
import Derived.Test.YtdpeopmbboogaaaZLongest24
import Derived.Test.YtdpeopmbboogaaaZLongest10
import Derived.Shelf.SlSortCmp.WholeK
import Derived.Shelf.SlSortCmp.NoneTotal
namespace Go.Proofs.Ytdpeopmbboogaaa
open Go.ChangeShapes Go.WideShapes Go.ChangeAt Go.RowKit Go.Sort Go.Shelf Go.Lib
set_option linter.unusedSimpArgs false
set_option linter.unusedVariables false

instance inhUpdS : Inhabited M1.Upd := ⟨M1.zeroU⟩

theorem oneS (u : M1.Upd) : ∀ v ∈ scs u, v.oneCell' = true := by
  intro v hv
  simp [scs] at hv
  rcases hv with rfl | rfl | rfl | rfl | rfl <;> rfl

set_option maxHeartbeats 2000000 in
theorem spans1_grew (u v : M1.Upd) (w : World) :
    Calls Try.prog 44 #[.agg #[.int .i64 u.id, .int .i64 u.pa, .string u.s, .int .i64 u.st, .int .i64 u.en], .agg #[.int .i64 v.id, .int .i64 v.pa, .string v.s, .int .i64 v.st, .int .i64 v.en]] w fun e w' => e = .returned (.int .i64 (M1.cmpI u.id v.id)) ∧ Grew w w' := by
  go_enter Try.func44, Try.ntmps44
  go_wp2_with fail
  refine (compare_any _ _ _).mono ?_
  rintro e w1 ⟨rfl, hb1⟩
  subst hb1
  go_wp2_with fail
  go_ret
  refine ⟨rfl, ?_⟩
  repeat (first | exact Grew.refl _ | refine Grew.drew ?_ | refine Grew.alloc ?_ _)
theorem isAggS (w : World) : (isAgg 34).run Try.prog w = .ok true w := by kernel_rfl
theorem sizeOfS (w : World) : (Go.sizeOf 34).run Try.prog w = .ok 5 w := by kernel_rfl

/-- The order of the numbers, as the closure tells it. -/
def ordS (u v : M1.Upd) : Int := M1.cmpI u.id v.id
theorem ltS (u v : M1.Upd) : ltOf ordS u v = decide (u.id < v.id) := by
  unfold ltOf ordS M1.cmpI
  split
  · simp; omega
  · split <;> simp <;> omega
theorem swoS : SWO (ltOf ordS) where
  irrefl x := by rw [ltS]; simp
  trans x y z h1 h2 := by rw [ltS] at *; simp at *; omega
  ntrans x y z h1 h2 := by rw [ltS] at *; simp at *; omega

theorem cmpS (blk off size : Nat) (w : World) : CmpLays Try.prog 44 #[] scs 5 ordS blk off size w :=
  fun _ _ _ _ x y => spans1_grew x y _

theorem up_toArrayS (us : List M1.Upd) (i : Nat) : us.toArray[i]! = M1.up us i := by
  unfold M1.up
  by_cases h : i < us.length
  · simp [h, List.getD]
  · simp [h, List.getD]; rfl

theorem holdsS {w : World} {blk : Nat} {us : List M1.Upd} (h : RowAt w blk (us.length * 5) (scell us)) : HoldsK scs 5 w blk 0 us.toArray := by
  intro j hj
  have hj' : j < us.length * 5 := by simpa using hj
  have e : (flatK scs 5 us.toArray)[j]! = scell us j := by
    rw [get_flatK scs 5 us.toArray j (by simpa using hj'), up_toArrayS]
    unfold scell
    have : j % 5 < (scs (M1.up us (j / 5))).length := by show j % 5 < 5; omega
    simp [List.getD, this]
  rw [Nat.zero_add, e]
  exact ⟨h.cell hj', h.free hj'⟩
theorem ofHoldsS {w : World} {blk : Nat} {us : List M1.Upd} (h : HoldsK scs 5 w blk 0 us.toArray) (hb : blk < w.heap.size) : RowAt w blk (us.length * 5) (scell us) := by
  refine ⟨hb, fun j hj => ?_⟩
  have hq := h j (by simpa using hj)
  have e : (flatK scs 5 us.toArray)[j]! = scell us j := by
    rw [get_flatK scs 5 us.toArray j (by simpa using hj), up_toArrayS]
    unfold scell
    have : j % 5 < (scs (M1.up us (j / 5))).length := by show j % 5 < 5; omega
    simp [List.getD, this]
  rw [Nat.zero_add, e] at hq
  exact hq
theorem grSortS (w : World) (blk n : Nat) (d : Array M1.Upd) (os : Array Obj) : Gr blk w (sortWorldK scs 5 w blk 0 n d os) := by
  refine ⟨rfl, rfl, rfl, by simp [sortWorldK, grow, putRowK, putRow, mapBlock, ahead], fun k hk hn => ?_⟩
  have hne : ¬ blk = k := fun e => hn (by rw [e])
  show ((w.heap.modify blk (onCells (putCells id 0 (flatK scs 5 d)))) ++ os)[k]? = w.heap[k]?
  rw [Array.getElem?_append_left (by simpa using hk), Array.getElem?_modify]
  simp [hne]

theorem sortS_any (blk cap : Nat) (us : List M1.Upd) (w : World) (hrow : RowAt w blk (us.length * 5) (scell us)) (hn : us.length ≤ 1048576) :
    Calls Try.prog 43 #[.slice (some ⟨blk, 0, none⟩) us.length cap, .func (.func 44) #[] #[]] w fun e w' => e = .returned (.tuple #[]) ∧ ∃ ns : List M1.Upd, ns.Perm us ∧ (∀ i j, i < j → j < ns.length → ¬ (M1.up ns j).id < (M1.up ns i).id) ∧ RowAt w' blk (us.length * 5) (scell ns) ∧ Gr blk w w' := by
  have eg : ∀ args w, (callFunc 44 args).run Try.prog w = .ok (.enter 44 args) w := enters_of Try.func44 (by kernel_rfl) rfl
  have hcon := AnyQ.slices_SortFunc Try.sortS 5 isAggS sizeOfS scs (fun _ => rfl) oneS ordS swoS 44 #[] blk 0 cap us.toArray w eg (cmpS blk 0 _ w) (holdsS hrow) hrow.lt (by simp; omega)
  simp only [List.size_toArray] at hcon
  refine Calls.mono hcon ?_
  rintro e w' ⟨rfl, d', n, os, hp, hs, rfl⟩
  obtain ⟨h1, _, h3⟩ := hp
  have hsz : d'.size = us.length := by simpa using h1
  have e1 : d'.extract 0 us.length = d' := by rw [← hsz]; simp
  have e2 : us.toArray.extract 0 us.length = us.toArray := by simp
  rw [e1, e2] at h3
  have hl : d'.toList.length = us.length := by simpa using hsz
  refine ⟨rfl, d'.toList, by simpa using h3, fun i j hij hj => ?_, ?_, grSortS _ _ _ _ _⟩
  · have := hs i j (Nat.zero_le _) hij (by omega)
    rw [ltS] at this
    have ea : ∀ i, d'[i]! = M1.up d'.toList i := fun i => by
      have := up_toArrayS d'.toList i
      simpa using this
    rw [ea, ea] at this
    simpa using this
  · rw [← hl]
    refine ofHoldsS ?_ ?_
    · have := holdsK_sortWorldK_c (enc := scs) (k := 5) (w := w) (blk := blk) (off := 0) us.toArray d' n os (holdsS hrow) hrow.lt (by simpa using hsz)
      simpa using this
    · have := size_sortWorldK_c (enc := scs) (k := 5) (w := w) (blk := blk) (off := 0) n d' os
      have h2 := hrow.lt
      omega

theorem sortS_none (p : Option Addr) (cap : Nat) (fv : Value) (w : World) :
    Calls Try.prog 43 #[.slice p 0 cap, fv] w fun e w' => e = .returned (.tuple #[]) ∧ w' = w := AnyF.slices_SortFunc_none Try.sortS p cap fv w
end Go.Proofs.Ytdpeopmbboogaaa
