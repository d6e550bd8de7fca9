/-
  Texts of one proof, joined: SortL, Told2.
-/
import Derived.Shelf.SlSortCmp.WholeK
import Derived.Ground.SlsfProg
import Derived.Test.YtgcinolbkllkkaaGreatProg
import Derived.Test.YtgcinolbkllkkaaGreatZXWorldOk29
import Derived.Test.YtgcinolbkllkkaaGreatZXWorldOk09
import Derived.Shelf.SlSortCmp.NoneTotal
namespace Go.Proofs
open Go.Shelf
def Tryz.sortU_ren : Go.Shelf.Ren := ⟨fun | 6 => 115 | 15 => 101 | 14 => 140 | 28 => 129 | 29 => 130 | 20 => 156 | 21 => 157 | 22 => 158 | 23 => 159 | 24 => 160 | 25 => 161 | 26 => 162 | 27 => 163 | 46 => 168 | 47 => 143 | 48 => 144 | 49 => 169 | 50 => 170 | 57 => 172 | n => n, fun | 22 => 32 | 24 => 72 | 25 => 177 | 3 => 3 | 39 => 164 | 0 => 0 | 53 => 193 | 55 => 173 | 4 => 4 | 46 => 186 | 45 => 185 | 50 => 190 | 5 => 5 | 9 => 9 | 66 => 210 | 70 => 213 | 76 => 230 | 77 => 231 | n => n, fun | n => n⟩

theorem Tryz.sortU : Go.Proofs.SlLaysF0.n6 Tryz.prog Tryz.sortU_ren := {
 mixed := by kernel_rfl
 f6 := ⟨Tryz.f115.name, by decide, Tryz.func115.trans (congrArg some (by kernel_rfl))⟩
 f14 := ⟨Tryz.f140.name, by decide, Tryz.func140.trans (congrArg some (by kernel_rfl))⟩
 f15 := Tryz.func101.trans (congrArg some (by kernel_rfl))
 f20 := ⟨Tryz.f156.name, by decide, Tryz.func156.trans (congrArg some (by kernel_rfl))⟩
 f21 := ⟨Tryz.f157.name, by decide, Tryz.func157.trans (congrArg some (by kernel_rfl))⟩
 f22 := ⟨Tryz.f158.name, by decide, Tryz.func158.trans (congrArg some (by kernel_rfl))⟩
 f23 := ⟨Tryz.f159.name, by decide, Tryz.func159.trans (congrArg some (by kernel_rfl))⟩
 f24 := ⟨Tryz.f160.name, by decide, Tryz.func160.trans (congrArg some (by kernel_rfl))⟩
 f25 := ⟨Tryz.f161.name, by decide, Tryz.func161.trans (congrArg some (by kernel_rfl))⟩
 f26 := ⟨Tryz.f162.name, by decide, Tryz.func162.trans (congrArg some (by kernel_rfl))⟩
 f27 := ⟨Tryz.f163.name, by decide, Tryz.func163.trans (congrArg some (by kernel_rfl))⟩
 f28 := Tryz.func129.trans (congrArg some (by kernel_rfl))
 f29 := Tryz.func130.trans (congrArg some (by kernel_rfl))
 f46 := ⟨Tryz.f168.name, by decide, Tryz.func168.trans (congrArg some (by kernel_rfl))⟩
 f47 := Tryz.func143.trans (congrArg some (by kernel_rfl))
 f48 := Tryz.func144.trans (congrArg some (by kernel_rfl))
 f49 := ⟨Tryz.f169.name, by decide, Tryz.func169.trans (congrArg some (by kernel_rfl))⟩
 f50 := ⟨Tryz.f170.name, by decide, Tryz.func170.trans (congrArg some (by kernel_rfl))⟩
 f57 := ⟨Tryz.f172.name, by decide, Tryz.func172.trans (congrArg some (by kernel_rfl))⟩
 t0 := Tryz.underlying0
 a0 := Tryz.isAgg0
 z0 := Tryz.sizeOf0
 v0 := Tryz.zeroValue0
 t3 := Tryz.underlying3
 a3 := Tryz.isAgg3
 z3 := Tryz.sizeOf3
 v3 := Tryz.zeroValue3
 t4 := Tryz.underlying4
 a4 := Tryz.isAgg4
 z4 := Tryz.sizeOf4
 v4 := Tryz.zeroValue4
 t5 := Tryz.underlying5
 a5 := Tryz.isAgg5
 z5 := Tryz.sizeOf5
 v5 := Tryz.zeroValue5
 t9 := Tryz.underlying9
 a9 := Tryz.isAgg9
 z9 := Tryz.sizeOf9
 v9 := Tryz.zeroValue9
 t22 := Tryz.underlying32
 a22 := Tryz.isAgg32
 z22 := Tryz.sizeOf32
 v22 := Tryz.zeroValue32
 t25 := Tryz.underlying177
 a25 := Tryz.isAgg177
 z25 := Tryz.sizeOf177
 v25 := Tryz.zeroValue177
 t39 := Tryz.underlying164
 a39 := Tryz.isAgg164
 z39 := Tryz.sizeOf164
 v39 := Tryz.zeroValue164
 t45 := Tryz.underlying185
 a45 := Tryz.isAgg185
 z45 := Tryz.sizeOf185
 v45 := Tryz.zeroValue185
 t46 := Tryz.underlying186
 a46 := Tryz.isAgg186
 z46 := Tryz.sizeOf186
 v46 := Tryz.zeroValue186
 t50 := Tryz.underlying190
 a50 := Tryz.isAgg190
 z50 := Tryz.sizeOf190
 v50 := Tryz.zeroValue190
 t53 := Tryz.underlying193
 a53 := Tryz.isAgg193
 z53 := Tryz.sizeOf193
 v53 := Tryz.zeroValue193
 t55 := Tryz.underlying173
 a55 := Tryz.isAgg173
 z55 := Tryz.sizeOf173
 v55 := Tryz.zeroValue173
 t66 := Tryz.underlying210
 a66 := Tryz.isAgg210
 z66 := Tryz.sizeOf210
 v66 := Tryz.zeroValue210
 t70 := Tryz.underlying213
 a70 := Tryz.isAgg213
 z70 := Tryz.sizeOf213
 v70 := Tryz.zeroValue213
 t76 := Tryz.underlying230
 a76 := Tryz.isAgg230
 z76 := Tryz.sizeOf230
 v76 := Tryz.zeroValue230
 t77 := Tryz.underlying231
 a77 := Tryz.isAgg231
 z77 := Tryz.sizeOf231
 v77 := Tryz.zeroValue231 }

end Go.Proofs

namespace Go.Proofs.YtgcinolbkllkkaaGreat
open Go.ChangeShapes Go.WideShapes Go.ChangeAt Go.RowKit Go.Sort Go.Shelf Go.Lib
set_option linter.unusedSimpArgs false
set_option linter.unusedVariables false
instance : Inhabited M1.Upd := ⟨M1.zeroU⟩

theorem isAggU (w : World) : (isAgg 72).run Tryz.prog w = .ok true w := by kernel_rfl

theorem sizeOfU (w : World) : (Go.sizeOf 72).run Tryz.prog w = .ok 13 w := by kernel_rfl

def ordU (u v : M1.Upd) : Int := M1.orI (M1.cmpI u.dr v.dr) (M1.cmpI u.dn v.dn)

theorem ltU (u v : M1.Upd) : ltOf ordU u v = M1.dahead u.dr u.dn v.dr v.dn := M1.dahead_cmp _ _ _ _

theorem swoU : SWO (ltOf ordU) where
 irrefl x := by rw [ltU]; simp [M1.dahead]
 trans x y z h1 h2 := by rw [ltU] at *; simp [M1.dahead] at *; omega
 ntrans x y z h1 h2 := by rw [ltU] at *; simp [M1.dahead] at *; omega

theorem cmpU (blk off size : Nat) (w : World) : CmpLays Tryz.prog 116 #[] ucs 13 ordU blk off size w :=
 fun _ _ _ _ x y => told1_grew x y _

theorem up_toArray (us : List M1.Upd) (i : Nat) : us.toArray[i]! = M1.up us i := by
 unfold M1.up
 by_cases h : i < us.length
 ·simp [h, List.getD]
 ·simp [h, List.getD]; rfl

theorem holdsU {w : World} {blk : Nat} {us : List M1.Upd} (h : RowAt w blk (us.length * 13) (ucell us)) : HoldsK ucs 13 w blk 0 us.toArray := by
 intro j hj
 have hj' : j < us.length * 13 := by simpa using hj
 have e : (flatK ucs 13 us.toArray)[j]! = ucell us j := by
  rw [get_flatK ucs 13 us.toArray j (by simpa using hj'), up_toArray]
  unfold ucell
  have : j % 13 < (ucs (M1.up us (j / 13))).length := by show j % 13 < 13; omega
  simp [List.getD, this]
 rw [Nat.zero_add, e]
 exact ⟨h.cell hj', h.free hj'⟩

theorem ofHoldsU {w : World} {blk : Nat} {us : List M1.Upd} (h : HoldsK ucs 13 w blk 0 us.toArray) (hb : blk < w.heap.size) : RowAt w blk (us.length * 13) (ucell us) := by
 refine ⟨hb, fun j hj => ?_⟩
 have hq := h j (by simpa using hj)
 have e : (flatK ucs 13 us.toArray)[j]! = ucell us j := by
  rw [get_flatK ucs 13 us.toArray j (by simpa using hj), up_toArray]
  unfold ucell
  have : j % 13 < (ucs (M1.up us (j / 13))).length := by show j % 13 < 13; omega
  simp [List.getD, this]
 rw [Nat.zero_add, e] at hq
 exact hq

theorem grSort (w : World) (blk n : Nat) (d : Array M1.Upd) (os : Array Obj) : Gr blk w (sortWorldK ucs 13 w blk 0 n d os) := by
 refine ⟨rfl, rfl, rfl, by simp [sortWorldK, grow, putRowK, putRow, mapBlock, ahead], fun k hk hn => ?_⟩
 have hne : ¬ blk = k := fun e => hn (by rw [e])
 show ((w.heap.modify blk (onCells (putCells id 0 (flatK ucs 13 d)))) ++ os)[k]? = w.heap[k]?
 rw [Array.getElem?_append_left (by simpa using hk), Array.getElem?_modify]
 simp [hne]

theorem sortU_any (blk cap : Nat) (us : List M1.Upd) (w : World) (hrow : RowAt w blk (us.length * 13) (ucell us)) (hn : us.length ≤ 1048576) :
  Calls Tryz.prog 115 #[.slice (some ⟨blk, 0, none⟩) us.length cap, .func (.func 116) #[] #[]] w fun e w' => e = .returned (.tuple #[]) ∧ ∃ ns : List M1.Upd, ns.Perm us ∧ (∀ i j, i < j → j < ns.length → M1.dahead (M1.up ns j).dr (M1.up ns j).dn (M1.up ns i).dr (M1.up ns i).dn = false) ∧ RowAt w' blk (us.length * 13) (ucell ns) ∧ Gr blk w w' := by
 have eg : ∀ args w, (callFunc 116 args).run Tryz.prog w = .ok (.enter 116 args) w := enters_of Tryz.func116 (by kernel_rfl) rfl
 have hcon := AnyQ.slices_SortFunc Tryz.sortU 13 isAggU sizeOfU ucs (fun _ => rfl) one13 ordU swoU 116 #[] blk 0 cap us.toArray w eg (cmpU blk 0 _ w) (holdsU hrow) hrow.lt (by simp; omega)
 simp only [List.size_toArray] at hcon
 refine Calls.mono hcon ?_
 rintro e w' ⟨rfl, d', n, os, hp, hs, rfl⟩
 obtain ⟨h1, _, h3⟩ := hp
 have hsz : d'.size = us.length := by simpa using h1
 have e1 : d'.extract 0 us.length = d' := by rw [← hsz]; simp
 have e2 : us.toArray.extract 0 us.length = us.toArray := by simp
 rw [e1, e2] at h3
 have hl : d'.toList.length = us.length := by simpa using hsz
 refine ⟨rfl, d'.toList, by simpa using h3, fun i j hij hj => ?_, ?_, grSort _ _ _ _ _⟩
 ·have := hs i j (Nat.zero_le _) hij (by omega)
  rw [ltU] at this
  have ea : ∀ i, d'[i]! = M1.up d'.toList i := fun i => by
   have := up_toArray d'.toList i
   simpa using this
  rwa [ea, ea] at this
 ·rw [← hl]
  refine ofHoldsU ?_ ?_
  ·have := holdsK_sortWorldK_c (enc := ucs) (k := 13) (w := w) (blk := blk) (off := 0) us.toArray d' n os (holdsU hrow) hrow.lt (by simpa using hsz)
   simpa using this
  ·have := size_sortWorldK_c (enc := ucs) (k := 13) (w := w) (blk := blk) (off := 0) n d' os
   have h2 := hrow.lt
   omega

theorem sortU_none (p : Option Addr) (cap : Nat) (fv : Value) (w : World) :
  Calls Tryz.prog 115 #[.slice p 0 cap, fv] w fun e w' => e = .returned (.tuple #[]) ∧ w' = w := AnyF.slices_SortFunc_none Tryz.sortU p cap fv w

end Go.Proofs.YtgcinolbkllkkaaGreat
