/-
  Texts of one proof, joined: SortL, Told2.
-/
import Derived.Shelf.SlSortCmp.WholeK
import Derived.Ground.SlsfProg
import Derived.Test.YtnoinkmpkklikaaProg
import Derived.Test.YtnoinkmpkklikaaZTaken40
import Derived.Test.YtnoinkmpkklikaaZTaken22
import Derived.Shelf.SlSortCmp.NoneTotal
namespace Go.Proofs
open Go.Shelf
def Try.sortU_ren : Go.Shelf.Ren := ⟨fun | 6 => 53 | 15 => 74 | 14 => 73 | 28 => 89 | 29 => 90 | 20 => 81 | 21 => 82 | 22 => 83 | 23 => 84 | 24 => 85 | 25 => 86 | 26 => 87 | 27 => 88 | 46 => 92 | 47 => 93 | 48 => 94 | 49 => 95 | 50 => 96 | 57 => 97 | n => n, fun | 22 => 24 | 24 => 51 | 25 => 78 | 3 => 3 | 39 => 96 | 0 => 0 | 53 => 119 | 55 => 108 | 4 => 4 | 46 => 112 | 45 => 111 | 50 => 116 | 5 => 5 | 9 => 9 | 66 => 123 | 70 => 126 | 76 => 128 | 77 => 129 | n => n, fun | n => n⟩
theorem Try.sortU : Go.Proofs.SlLaysF0.n6 Try.prog Try.sortU_ren := {
  mixed := by kernel_rfl
  f6 := ⟨Try.f53.name, by decide, Try.func53.trans (congrArg some (by kernel_rfl))⟩
  f14 := ⟨Try.f73.name, by decide, Try.func73.trans (congrArg some (by kernel_rfl))⟩
  f15 := Try.func74.trans (congrArg some (by kernel_rfl))
  f20 := ⟨Try.f81.name, by decide, Try.func81.trans (congrArg some (by kernel_rfl))⟩
  f21 := ⟨Try.f82.name, by decide, Try.func82.trans (congrArg some (by kernel_rfl))⟩
  f22 := ⟨Try.f83.name, by decide, Try.func83.trans (congrArg some (by kernel_rfl))⟩
  f23 := ⟨Try.f84.name, by decide, Try.func84.trans (congrArg some (by kernel_rfl))⟩
  f24 := ⟨Try.f85.name, by decide, Try.func85.trans (congrArg some (by kernel_rfl))⟩
  f25 := ⟨Try.f86.name, by decide, Try.func86.trans (congrArg some (by kernel_rfl))⟩
  f26 := ⟨Try.f87.name, by decide, Try.func87.trans (congrArg some (by kernel_rfl))⟩
  f27 := ⟨Try.f88.name, by decide, Try.func88.trans (congrArg some (by kernel_rfl))⟩
  f28 := Try.func89.trans (congrArg some (by kernel_rfl))
  f29 := Try.func90.trans (congrArg some (by kernel_rfl))
  f46 := ⟨Try.f92.name, by decide, Try.func92.trans (congrArg some (by kernel_rfl))⟩
  f47 := Try.func93.trans (congrArg some (by kernel_rfl))
  f48 := Try.func94.trans (congrArg some (by kernel_rfl))
  f49 := ⟨Try.f95.name, by decide, Try.func95.trans (congrArg some (by kernel_rfl))⟩
  f50 := ⟨Try.f96.name, by decide, Try.func96.trans (congrArg some (by kernel_rfl))⟩
  f57 := ⟨Try.f97.name, by decide, Try.func97.trans (congrArg some (by kernel_rfl))⟩
  t0 := Try.underlying0
  a0 := Try.isAgg0
  z0 := Try.sizeOf0
  v0 := Try.zeroValue0
  t3 := Try.underlying3
  a3 := Try.isAgg3
  z3 := Try.sizeOf3
  v3 := Try.zeroValue3
  t4 := Try.underlying4
  a4 := Try.isAgg4
  z4 := Try.sizeOf4
  v4 := Try.zeroValue4
  t5 := Try.underlying5
  a5 := Try.isAgg5
  z5 := Try.sizeOf5
  v5 := Try.zeroValue5
  t9 := Try.underlying9
  a9 := Try.isAgg9
  z9 := Try.sizeOf9
  v9 := Try.zeroValue9
  t22 := Try.underlying24
  a22 := Try.isAgg24
  z22 := Try.sizeOf24
  v22 := Try.zeroValue24
  t25 := Try.underlying78
  a25 := Try.isAgg78
  z25 := Try.sizeOf78
  v25 := Try.zeroValue78
  t39 := Try.underlying96
  a39 := Try.isAgg96
  z39 := Try.sizeOf96
  v39 := Try.zeroValue96
  t45 := Try.underlying111
  a45 := Try.isAgg111
  z45 := Try.sizeOf111
  v45 := Try.zeroValue111
  t46 := Try.underlying112
  a46 := Try.isAgg112
  z46 := Try.sizeOf112
  v46 := Try.zeroValue112
  t50 := Try.underlying116
  a50 := Try.isAgg116
  z50 := Try.sizeOf116
  v50 := Try.zeroValue116
  t53 := Try.underlying119
  a53 := Try.isAgg119
  z53 := Try.sizeOf119
  v53 := Try.zeroValue119
  t55 := Try.underlying108
  a55 := Try.isAgg108
  z55 := Try.sizeOf108
  v55 := Try.zeroValue108
  t66 := Try.underlying123
  a66 := Try.isAgg123
  z66 := Try.sizeOf123
  v66 := Try.zeroValue123
  t70 := Try.underlying126
  a70 := Try.isAgg126
  z70 := Try.sizeOf126
  v70 := Try.zeroValue126
  t76 := Try.underlying128
  a76 := Try.isAgg128
  z76 := Try.sizeOf128
  v76 := Try.zeroValue128
  t77 := Try.underlying129
  a77 := Try.isAgg129
  z77 := Try.sizeOf129
  v77 := Try.zeroValue129 }
end Go.Proofs

namespace Go.Proofs.Ytnoinkmpkklikaa
open Go.ChangeShapes Go.WideShapes Go.ChangeAt Go.RowKit Go.Sort Go.Shelf Go.Lib
set_option linter.unusedSimpArgs false
set_option linter.unusedVariables false

instance : Inhabited M1.Upd := ⟨M1.zeroU⟩
theorem isAggU (w : World) : (isAgg 51).run Try.prog w = .ok true w := by kernel_rfl
theorem sizeOfU (w : World) : (Go.sizeOf 51).run Try.prog w = .ok 13 w := by kernel_rfl

/-- The order of the dots, as the closure tells it. -/
def ordU (u v : M1.Upd) : Int := M1.orI (M1.cmpI u.dr v.dr) (M1.cmpI u.dn v.dn)
theorem ltU (u v : M1.Upd) : ltOf ordU u v = M1.dahead u.dr u.dn v.dr v.dn := M1.dahead_cmp _ _ _ _
theorem swoU : SWO (ltOf ordU) where
  irrefl x := by rw [ltU]; simp [M1.dahead]
  trans x y z h1 h2 := by rw [ltU] at *; simp [M1.dahead] at *; omega
  ntrans x y z h1 h2 := by rw [ltU] at *; simp [M1.dahead] at *; omega

theorem cmpU (blk off size : Nat) (w : World) : CmpLays Try.prog 54 #[] ucs 13 ordU blk off size w :=
  fun _ _ _ _ x y => told1_grew x y _

theorem up_toArray (us : List M1.Upd) (i : Nat) : us.toArray[i]! = M1.up us i := by
  unfold M1.up
  by_cases h : i < us.length
  · simp [h, List.getD]
  · simp [h, List.getD]; rfl

theorem holdsU {w : World} {blk : Nat} {us : List M1.Upd} (h : RowAt w blk (us.length * 13) (ucell us)) : HoldsK ucs 13 w blk 0 us.toArray := by
  intro j hj
  have hj' : j < us.length * 13 := by simpa using hj
  have e : (flatK ucs 13 us.toArray)[j]! = ucell us j := by
    rw [get_flatK ucs 13 us.toArray j (by simpa using hj'), up_toArray]
    unfold ucell
    have : j % 13 < (ucs (M1.up us (j / 13))).length := by show j % 13 < 13; omega
    simp [List.getD, this]
  rw [Nat.zero_add, e]
  exact ⟨h.cell hj', h.free hj'⟩
theorem ofHoldsU {w : World} {blk : Nat} {us : List M1.Upd} (h : HoldsK ucs 13 w blk 0 us.toArray) (hb : blk < w.heap.size) : RowAt w blk (us.length * 13) (ucell us) := by
  refine ⟨hb, fun j hj => ?_⟩
  have hq := h j (by simpa using hj)
  have e : (flatK ucs 13 us.toArray)[j]! = ucell us j := by
    rw [get_flatK ucs 13 us.toArray j (by simpa using hj), up_toArray]
    unfold ucell
    have : j % 13 < (ucs (M1.up us (j / 13))).length := by show j % 13 < 13; omega
    simp [List.getD, this]
  rw [Nat.zero_add, e] at hq
  exact hq
theorem grSort (w : World) (blk n : Nat) (d : Array M1.Upd) (os : Array Obj) : Gr blk w (sortWorldK ucs 13 w blk 0 n d os) := by
  refine ⟨rfl, rfl, rfl, by simp [sortWorldK, grow, putRowK, putRow, mapBlock, ahead], fun k hk hn => ?_⟩
  have hne : ¬ blk = k := fun e => hn (by rw [e])
  show ((w.heap.modify blk (onCells (putCells id 0 (flatK ucs 13 d)))) ++ os)[k]? = w.heap[k]?
  rw [Array.getElem?_append_left (by simpa using hk), Array.getElem?_modify]
  simp [hne]

theorem sortU_any (blk cap : Nat) (us : List M1.Upd) (w : World) (hrow : RowAt w blk (us.length * 13) (ucell us)) (hn : us.length ≤ 1048576) :
    Calls Try.prog 53 #[.slice (some ⟨blk, 0, none⟩) us.length cap, .func (.func 54) #[] #[]] w fun e w' => e = .returned (.tuple #[]) ∧ ∃ ns : List M1.Upd, ns.Perm us ∧ (∀ i j, i < j → j < ns.length → M1.dahead (M1.up ns j).dr (M1.up ns j).dn (M1.up ns i).dr (M1.up ns i).dn = false) ∧ RowAt w' blk (us.length * 13) (ucell ns) ∧ Gr blk w w' := by
  have eg : ∀ args w, (callFunc 54 args).run Try.prog w = .ok (.enter 54 args) w := enters_of Try.func54 (by kernel_rfl) rfl
  have hcon := AnyQ.slices_SortFunc Try.sortU 13 isAggU sizeOfU ucs (fun _ => rfl) one13 ordU swoU 54 #[] blk 0 cap us.toArray w eg (cmpU blk 0 _ w) (holdsU hrow) hrow.lt (by simp; omega)
  simp only [List.size_toArray] at hcon
  refine Calls.mono hcon ?_
  rintro e w' ⟨rfl, d', n, os, hp, hs, rfl⟩
  obtain ⟨h1, _, h3⟩ := hp
  have hsz : d'.size = us.length := by simpa using h1
  have e1 : d'.extract 0 us.length = d' := by rw [← hsz]; simp
  have e2 : us.toArray.extract 0 us.length = us.toArray := by simp
  rw [e1, e2] at h3
  have hl : d'.toList.length = us.length := by simpa using hsz
  refine ⟨rfl, d'.toList, by simpa using h3, fun i j hij hj => ?_, ?_, grSort _ _ _ _ _⟩
  · have := hs i j (Nat.zero_le _) hij (by omega)
    rw [ltU] at this
    have ea : ∀ i, d'[i]! = M1.up d'.toList i := fun i => by
      have := up_toArray d'.toList i
      simpa using this
    rwa [ea, ea] at this
  · rw [← hl]
    refine ofHoldsU ?_ ?_
    · have := holdsK_sortWorldK_c (enc := ucs) (k := 13) (w := w) (blk := blk) (off := 0) us.toArray d' n os (holdsU hrow) hrow.lt (by simpa using hsz)
      simpa using this
    · have := size_sortWorldK_c (enc := ucs) (k := 13) (w := w) (blk := blk) (off := 0) n d' os
      have h2 := hrow.lt
      omega

theorem sortU_none (p : Option Addr) (cap : Nat) (fv : Value) (w : World) :
    Calls Try.prog 53 #[.slice p 0 cap, fv] w fun e w' => e = .returned (.tuple #[]) ∧ w' = w := AnyF.slices_SortFunc_none Try.sortU p cap fv w
end Go.Proofs.Ytnoinkmpkklikaa
