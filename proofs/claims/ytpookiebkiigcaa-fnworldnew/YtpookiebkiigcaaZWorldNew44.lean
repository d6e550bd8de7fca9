/-
  The program's sort of updates: a permutation of what the row held, in the order of their dots; nothing but the row has turned.
-/
import Derived.Test.YtpookiebkiigcaaZWorldNew42
import Derived.Test.YtpookiebkiigcaaZWorldNew25
import Derived.Test.YtpookiebkiigcaaZWorldNew43
import Derived.Shelf.SlSortCmp.WholeK
import Derived.Shelf.SlSortCmp.NoneTotal
namespace Go.Proofs.Ytpookiebkiigcaa
open Go.ChangeShapes Go.WideShapes Go.ChangeAt Go.RowKit Go.Sort Go.Shelf Go.Lib
set_option linter.unusedSimpArgs false
set_option linter.unusedVariables false

instance : Inhabited M1.Upd := ⟨M1.zeroU⟩
theorem isAggU (w : World) : (isAgg 87).run Try.prog w = .ok true w := by kernel_rfl
theorem sizeOfU (w : World) : (Go.sizeOf 87).run Try.prog w = .ok 13 w := by kernel_rfl

/-- The order of the dots, as the closure tells it. -/
def ordU (u v : M1.Upd) : Int := M1.orI (M1.cmpI u.dr v.dr) (M1.cmpI u.dn v.dn)
theorem ltU (u v : M1.Upd) : ltOf ordU u v = M1.dahead u.dr u.dn v.dr v.dn := M1.dahead_cmp _ _ _ _
theorem swoU : SWO (ltOf ordU) where
  irrefl x := by rw [ltU]; simp [M1.dahead]
  trans x y z h1 h2 := by rw [ltU] at *; simp [M1.dahead] at *; omega
  ntrans x y z h1 h2 := by rw [ltU] at *; simp [M1.dahead] at *; omega

theorem cmpU (blk off size : Nat) (w : World) : CmpLays Try.prog 110 #[] ucs 13 ordU blk off size w :=
  fun _ _ _ _ x y => told1_grew x y _

theorem up_toArray (us : List M1.Upd) (i : Nat) : us.toArray[i]! = M1.up us i := by
  unfold M1.up
  by_cases h : i < us.length
  · simp [h, List.getD]
  · simp [h, List.getD]; rfl

theorem holdsU {w : World} {blk : Nat} {us : List M1.Upd} (h : RowAt w blk (us.length * 13) (ucell us)) : HoldsK ucs 13 w blk 0 us.toArray := by
  intro j hj
  have hj' : j < us.length * 13 := by simpa using hj
  have e : (flatK ucs 13 us.toArray)[j]! = ucell us j := by
    rw [get_flatK ucs 13 us.toArray j (by simpa using hj'), up_toArray]
    unfold ucell
    have : j % 13 < (ucs (M1.up us (j / 13))).length := by show j % 13 < 13; omega
    simp [List.getD, this]
  rw [Nat.zero_add, e]
  exact ⟨h.cell hj', h.free hj'⟩
theorem ofHoldsU {w : World} {blk : Nat} {us : List M1.Upd} (h : HoldsK ucs 13 w blk 0 us.toArray) (hb : blk < w.heap.size) : RowAt w blk (us.length * 13) (ucell us) := by
  refine ⟨hb, fun j hj => ?_⟩
  have hq := h j (by simpa using hj)
  have e : (flatK ucs 13 us.toArray)[j]! = ucell us j := by
    rw [get_flatK ucs 13 us.toArray j (by simpa using hj), up_toArray]
    unfold ucell
    have : j % 13 < (ucs (M1.up us (j / 13))).length := by show j % 13 < 13; omega
    simp [List.getD, this]
  rw [Nat.zero_add, e] at hq
  exact hq
theorem grSort (w : World) (blk n : Nat) (d : Array M1.Upd) (os : Array Obj) : Gr blk w (sortWorldK ucs 13 w blk 0 n d os) := by
  refine ⟨rfl, rfl, rfl, by simp [sortWorldK, grow, putRowK, putRow, mapBlock, ahead], fun k hk hn => ?_⟩
  have hne : ¬ blk = k := fun e => hn (by rw [e])
  show ((w.heap.modify blk (onCells (putCells id 0 (flatK ucs 13 d)))) ++ os)[k]? = w.heap[k]?
  rw [Array.getElem?_append_left (by simpa using hk), Array.getElem?_modify]
  simp [hne]

theorem sortU_any (blk cap : Nat) (us : List M1.Upd) (w : World) (hrow : RowAt w blk (us.length * 13) (ucell us)) (hn : us.length ≤ 1048576) :
    Calls Try.prog 109 #[.slice (some ⟨blk, 0, none⟩) us.length cap, .func (.func 110) #[] #[]] w fun e w' => e = .returned (.tuple #[]) ∧ ∃ ns : List M1.Upd, ns.Perm us ∧ (∀ i j, i < j → j < ns.length → M1.dahead (M1.up ns j).dr (M1.up ns j).dn (M1.up ns i).dr (M1.up ns i).dn = false) ∧ RowAt w' blk (us.length * 13) (ucell ns) ∧ Gr blk w w' := by
  have eg : ∀ args w, (callFunc 110 args).run Try.prog w = .ok (.enter 110 args) w := enters_of Try.func110 (by kernel_rfl) rfl
  have hcon := AnyQ.slices_SortFunc Try.sortU 13 isAggU sizeOfU ucs (fun _ => rfl) one13 ordU swoU 110 #[] blk 0 cap us.toArray w eg (cmpU blk 0 _ w) (holdsU hrow) hrow.lt (by simp; omega)
  simp only [List.size_toArray] at hcon
  refine Calls.mono hcon ?_
  rintro e w' ⟨rfl, d', n, os, hp, hs, rfl⟩
  obtain ⟨h1, _, h3⟩ := hp
  have hsz : d'.size = us.length := by simpa using h1
  have e1 : d'.extract 0 us.length = d' := by rw [← hsz]; simp
  have e2 : us.toArray.extract 0 us.length = us.toArray := by simp
  rw [e1, e2] at h3
  have hl : d'.toList.length = us.length := by simpa using hsz
  refine ⟨rfl, d'.toList, by simpa using h3, fun i j hij hj => ?_, ?_, grSort _ _ _ _ _⟩
  · have := hs i j (Nat.zero_le _) hij (by omega)
    rw [ltU] at this
    have ea : ∀ i, d'[i]! = M1.up d'.toList i := fun i => by
      have := up_toArray d'.toList i
      simpa using this
    rwa [ea, ea] at this
  · rw [← hl]
    refine ofHoldsU ?_ ?_
    · have := holdsK_sortWorldK_c (enc := ucs) (k := 13) (w := w) (blk := blk) (off := 0) us.toArray d' n os (holdsU hrow) hrow.lt (by simpa using hsz)
      simpa using this
    · have := size_sortWorldK_c (enc := ucs) (k := 13) (w := w) (blk := blk) (off := 0) n d' os
      have h2 := hrow.lt
      omega

theorem sortU_none (p : Option Addr) (cap : Nat) (fv : Value) (w : World) :
    Calls Try.prog 109 #[.slice p 0 cap, fv] w fun e w' => e = .returned (.tuple #[]) ∧ w' = w := AnyF.slices_SortFunc_none Try.sortU p cap fv w
end Go.Proofs.Ytpookiebkiigcaa
