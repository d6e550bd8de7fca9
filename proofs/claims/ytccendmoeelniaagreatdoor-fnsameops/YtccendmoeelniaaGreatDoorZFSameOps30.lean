/-
  Texts of one proof, joined: Told1, SortL, Told2.
-/
import Derived.Test.YtccendmoeelniaaGreatDoorZFSameOps10
import Derived.Test.YtccendmoeelniaaGreatDoorZFSameOps01
import Derived.Sort.Grow
import Derived.Deep.Draws
import Derived.Shelf.SlSortCmp.WholeK
import Derived.Ground.SlsfProg
import Derived.Test.YtccendmoeelniaaGreatDoorProg
import Derived.Test.YtccendmoeelniaaGreatDoorZFSameOps03
import Derived.Shelf.SlSortCmp.NoneTotal
namespace Go.Proofs.YtccendmoeelniaaGreatDoor
open Go.ChangeShapes Go.WideShapes Go.ChangeAt Go.RowKit Go.Sort
set_option linter.unusedSimpArgs false
set_option linter.unusedVariables false
def Grew (w w' : World) : Prop := ∃ q os', w' = grow (w.drewN q) os'

theorem Grew.refl (w : World) : Grew w w := ⟨0, #[], by simp [grow, World.drewN]⟩

theorem Grew.alloc {w w' : World} (h : Grew w w') (o : Obj) : Grew w (w'.alloc o) := by
 obtain ⟨q, os', rfl⟩ := h
 exact ⟨q, os' ++ #[o], by rw [alloc_eq_grow, grow_grow]⟩

theorem Grew.drew {w w' : World} (h : Grew w w') : Grew w w'.drew := by
 obtain ⟨q, os', rfl⟩ := h
 exact ⟨q + 1, os', by simp [grow, World.drewN, World.drew, Nat.add_assoc]⟩

theorem Grew.trans {w w' w'' : World} (h : Grew w w') (h2 : Grew w' w'') : Grew w w'' := by
 obtain ⟨q, os', rfl⟩ := h
 obtain ⟨q2, os2, rfl⟩ := h2
 exact ⟨q + q2, os' ++ os2, by simp [grow, World.drewN, Array.append_assoc, Nat.add_assoc]⟩

set_option maxHeartbeats 2000000 in
theorem dotOrder_grew (a b x y : Int) (w : World) :
  Calls Tryz.prog 108 #[.agg #[.int .i64 a, .int .i64 b], .agg #[.int .i64 x, .int .i64 y]] w fun e w' => e = .returned (.int .i64 (M1.orI (M1.cmpI a x) (M1.cmpI b y))) ∧ Grew w w' := by
 go_enter Tryz.func108, Tryz.ntmps108
 go_wp2_with fail
 refine wp_region_held_drew (S := fun w' => Kp ((w.alloc (Obj.cells #[Value.int IntKind.i64 a, Value.int IntKind.i64 b] 36)).alloc (Obj.cells #[Value.int IntKind.i64 x, Value.int IntKind.i64 y] 36)) w') (by kernel_rfl) ?_ (fun hHeld => ?_)
 ·exact kp_zero _
 refine tZ (i:=0) (v:=?_) rfl (.inl ⟨by rfl, ?_⟩) hHeld ?_
 rotate_left
 ·(intro w hSw; (try dsimp only at hSw); go_simp; try (with_reducible rfl))
 (try simp only [Act.put, zZ])
 refine tZ (i:=1) (v:=?_) rfl (.inl ⟨by rfl, ?_⟩) hHeld ?_
 rotate_left
 ·(intro w hSw; (try dsimp only at hSw); go_simp; try (with_reducible rfl))
 (try simp only [Act.put, zZ])
 refine tZ (i:=2) (v:=?_) rfl (.inl ⟨by rfl, ?_⟩) hHeld ?_
 rotate_left
 ·(intro w hSw; (try dsimp only at hSw); go_simp; try (with_reducible rfl))
 (try simp only [Act.put, zZ])
 refine tZ (i:=3) (v:=?_) rfl (.inl ⟨by rfl, ?_⟩) hHeld ?_
 rotate_left
 ·(intro w hSw; (try dsimp only at hSw); go_simp; try (with_reducible rfl))
 (try simp only [Act.put, zZ])
 refine tZ (i:=5) (v:=?_) rfl (.inl ⟨by rfl, ?_⟩) hHeld ?_
 rotate_left
 ·(intro w hSw; (try dsimp only at hSw); go_simp; try (with_reducible rfl))
 (try simp only [Act.put, zZ])
 refine tZ (i:=6) (v:=?_) rfl (.inl ⟨by rfl, ?_⟩) hHeld ?_
 rotate_left
 ·(intro w hSw; (try dsimp only at hSw); go_simp; try (with_reducible rfl))
 (try simp only [Act.put, zZ])
 refine tZ (i:=7) (v:=?_) rfl (.inl ⟨by rfl, ?_⟩) hHeld ?_
 rotate_left
 ·(intro w hSw; (try dsimp only at hSw); go_simp; try (with_reducible rfl))
 (try simp only [Act.put, zZ])
 refine tZ (i:=8) (v:=?_) rfl (.inl ⟨by rfl, ?_⟩) hHeld ?_
 rotate_left
 ·(intro w hSw; (try dsimp only at hSw); go_simp; try (with_reducible rfl))
 (try simp only [Act.put, zZ])
 refine wpAnyH_ready (rs := [4]) (by kernel_rfl) (by simp) ?_
 refine AllReadyH.cons (o := _) rfl (fun K hK => ?_) AllReadyH.nil
 go_simp
 (refine (compare_any _ _ _).mono ?_; rintro e w' ⟨rfl, hbw⟩; subst hbw; go_wp2_with fail)
 refine hK.out _ _ ?_ (fun hHeld2 => ?_)
 ·exact hHeld
 clear hK K hHeld
 have hHeld := hHeld2
 clear hHeld2
 (try simp only [Act.put, zZ])
 refine wpAnyH_ready (rs := [9]) (by kernel_rfl) (by simp) ?_
 refine AllReadyH.cons (o := _) rfl (fun K hK => ?_) AllReadyH.nil
 go_simp
 (refine (compare_any _ _ _).mono ?_; rintro e w' ⟨rfl, hbw⟩; subst hbw; go_wp2_with fail)
 refine hK.out _ _ ?_ (fun hHeld2 => ?_)
 ·exact hHeld
 clear hK K hHeld
 have hHeld := hHeld2
 clear hHeld2
 (try simp only [Act.put, zZ])
 refine wpAnyH_ready (rs := [10]) (by kernel_rfl) (by simp) ?_
 refine AllReadyH.cons (o := _) rfl (fun K hK => ?_) AllReadyH.nil
 go_simp
 skip
 refine hK.out _ _ ?_ (fun hHeld2 => ?_)
 ·exact kp_alloc hHeld _
 clear hK K hHeld
 have hHeld := hHeld2
 clear hHeld2
 (try simp only [Act.put, zZ])
 refine wpAnyH_ready (rs := [11]) (by kernel_rfl) (by simp) ?_
 refine AllReadyH.cons (o := _) rfl (fun K hK => ?_) AllReadyH.nil
 go_simp
 (refine (cmpOr_two (w.heap.size + 1 + 1) (M1.cmpI a x) (M1.cmpI b y) _ (by go_simp) (by go_simp)).mono ?_; rintro e w' ⟨rfl, hbw⟩; subst hbw; go_wp2_with fail)
 refine hK.out _ _ ?_ (fun hHeld2 => ?_)
 ·exact hHeld
 clear hK K hHeld
 have hHeld := hHeld2
 clear hHeld2
 (try simp only [Act.put, zZ])
 refine tZ (i:=12) (v:=?_) rfl (.inl ⟨by rfl, ?_⟩) hHeld ?_
 rotate_left
 ·(intro w hSw; (try dsimp only at hSw); go_simp; try (with_reducible rfl))
 (try simp only [Act.put, zZ])
 refine wpAnyH_done (by kernel_rfl) ?_ _
 clear hHeld
 go_wp2_with fail
 go_ret
 refine ⟨rfl, ?_⟩
 repeat (first | exact Grew.refl _ | refine Grew.drew ?_ | refine Grew.alloc ?_ _)

set_option maxHeartbeats 2000000 in
theorem told1_grew (u v : M1.Upd) (w : World) :
  Calls Tryz.prog 107 #[.agg #[.int .i64 u.dr, .int .i64 u.dn, .int .i64 u.sw, .int .i64 u.sc, .int .i64 u.sr, .int .i64 u.k, .int .i64 u.tr, .int .i64 u.id, .int .i64 u.pa, .string u.s, .int .i64 u.st, .int .i64 u.en, .int .i64 u.lv], .agg #[.int .i64 v.dr, .int .i64 v.dn, .int .i64 v.sw, .int .i64 v.sc, .int .i64 v.sr, .int .i64 v.k, .int .i64 v.tr, .int .i64 v.id, .int .i64 v.pa, .string v.s, .int .i64 v.st, .int .i64 v.en, .int .i64 v.lv]] w fun e w' => e = .returned (.int .i64 (M1.orI (M1.cmpI u.dr v.dr) (M1.cmpI u.dn v.dn))) ∧ Grew w w' := by
 go_enter Tryz.func107, Tryz.ntmps107
 go_wp2_with fail
 refine (dotOrder_grew _ _ _ _ _).mono ?_
 rintro e w1 ⟨rfl, hb1⟩
 go_wp2_with fail
 go_ret
 exact ⟨rfl, (((Grew.refl w).alloc _).alloc _).trans hb1⟩

end Go.Proofs.YtccendmoeelniaaGreatDoor

namespace Go.Proofs
open Go.Shelf
def Tryz.sortU_ren : Go.Shelf.Ren := ⟨fun | 6 => 106 | 15 => 130 | 14 => 129 | 28 => 145 | 29 => 146 | 20 => 137 | 21 => 138 | 22 => 139 | 23 => 140 | 24 => 141 | 25 => 142 | 26 => 143 | 27 => 144 | 46 => 148 | 47 => 149 | 48 => 150 | 49 => 151 | 50 => 152 | 57 => 153 | n => n, fun | 22 => 26 | 24 => 38 | 25 => 147 | 3 => 3 | 39 => 153 | 0 => 0 | 53 => 212 | 55 => 151 | 4 => 4 | 46 => 205 | 45 => 204 | 50 => 209 | 5 => 5 | 9 => 9 | 66 => 215 | 70 => 218 | 76 => 220 | 77 => 221 | n => n, fun | n => n⟩

theorem Tryz.sortU : Go.Proofs.SlLaysF0.n6 Tryz.prog Tryz.sortU_ren := {
 mixed := by kernel_rfl
 f6 := ⟨Tryz.f106.name, by decide, Tryz.func106.trans (congrArg some (by kernel_rfl))⟩
 f14 := ⟨Tryz.f129.name, by decide, Tryz.func129.trans (congrArg some (by kernel_rfl))⟩
 f15 := Tryz.func130.trans (congrArg some (by kernel_rfl))
 f20 := ⟨Tryz.f137.name, by decide, Tryz.func137.trans (congrArg some (by kernel_rfl))⟩
 f21 := ⟨Tryz.f138.name, by decide, Tryz.func138.trans (congrArg some (by kernel_rfl))⟩
 f22 := ⟨Tryz.f139.name, by decide, Tryz.func139.trans (congrArg some (by kernel_rfl))⟩
 f23 := ⟨Tryz.f140.name, by decide, Tryz.func140.trans (congrArg some (by kernel_rfl))⟩
 f24 := ⟨Tryz.f141.name, by decide, Tryz.func141.trans (congrArg some (by kernel_rfl))⟩
 f25 := ⟨Tryz.f142.name, by decide, Tryz.func142.trans (congrArg some (by kernel_rfl))⟩
 f26 := ⟨Tryz.f143.name, by decide, Tryz.func143.trans (congrArg some (by kernel_rfl))⟩
 f27 := ⟨Tryz.f144.name, by decide, Tryz.func144.trans (congrArg some (by kernel_rfl))⟩
 f28 := Tryz.func145.trans (congrArg some (by kernel_rfl))
 f29 := Tryz.func146.trans (congrArg some (by kernel_rfl))
 f46 := ⟨Tryz.f148.name, by decide, Tryz.func148.trans (congrArg some (by kernel_rfl))⟩
 f47 := Tryz.func149.trans (congrArg some (by kernel_rfl))
 f48 := Tryz.func150.trans (congrArg some (by kernel_rfl))
 f49 := ⟨Tryz.f151.name, by decide, Tryz.func151.trans (congrArg some (by kernel_rfl))⟩
 f50 := ⟨Tryz.f152.name, by decide, Tryz.func152.trans (congrArg some (by kernel_rfl))⟩
 f57 := ⟨Tryz.f153.name, by decide, Tryz.func153.trans (congrArg some (by kernel_rfl))⟩
 t0 := Tryz.underlying0
 a0 := Tryz.isAgg0
 z0 := Tryz.sizeOf0
 v0 := Tryz.zeroValue0
 t3 := Tryz.underlying3
 a3 := Tryz.isAgg3
 z3 := Tryz.sizeOf3
 v3 := Tryz.zeroValue3
 t4 := Tryz.underlying4
 a4 := Tryz.isAgg4
 z4 := Tryz.sizeOf4
 v4 := Tryz.zeroValue4
 t5 := Tryz.underlying5
 a5 := Tryz.isAgg5
 z5 := Tryz.sizeOf5
 v5 := Tryz.zeroValue5
 t9 := Tryz.underlying9
 a9 := Tryz.isAgg9
 z9 := Tryz.sizeOf9
 v9 := Tryz.zeroValue9
 t22 := Tryz.underlying26
 a22 := Tryz.isAgg26
 z22 := Tryz.sizeOf26
 v22 := Tryz.zeroValue26
 t25 := Tryz.underlying147
 a25 := Tryz.isAgg147
 z25 := Tryz.sizeOf147
 v25 := Tryz.zeroValue147
 t39 := Tryz.underlying153
 a39 := Tryz.isAgg153
 z39 := Tryz.sizeOf153
 v39 := Tryz.zeroValue153
 t45 := Tryz.underlying204
 a45 := Tryz.isAgg204
 z45 := Tryz.sizeOf204
 v45 := Tryz.zeroValue204
 t46 := Tryz.underlying205
 a46 := Tryz.isAgg205
 z46 := Tryz.sizeOf205
 v46 := Tryz.zeroValue205
 t50 := Tryz.underlying209
 a50 := Tryz.isAgg209
 z50 := Tryz.sizeOf209
 v50 := Tryz.zeroValue209
 t53 := Tryz.underlying212
 a53 := Tryz.isAgg212
 z53 := Tryz.sizeOf212
 v53 := Tryz.zeroValue212
 t55 := Tryz.underlying151
 a55 := Tryz.isAgg151
 z55 := Tryz.sizeOf151
 v55 := Tryz.zeroValue151
 t66 := Tryz.underlying215
 a66 := Tryz.isAgg215
 z66 := Tryz.sizeOf215
 v66 := Tryz.zeroValue215
 t70 := Tryz.underlying218
 a70 := Tryz.isAgg218
 z70 := Tryz.sizeOf218
 v70 := Tryz.zeroValue218
 t76 := Tryz.underlying220
 a76 := Tryz.isAgg220
 z76 := Tryz.sizeOf220
 v76 := Tryz.zeroValue220
 t77 := Tryz.underlying221
 a77 := Tryz.isAgg221
 z77 := Tryz.sizeOf221
 v77 := Tryz.zeroValue221 }

end Go.Proofs

namespace Go.Proofs.YtccendmoeelniaaGreatDoor
open Go.ChangeShapes Go.WideShapes Go.ChangeAt Go.RowKit Go.Sort Go.Shelf Go.Lib
set_option linter.unusedSimpArgs false
set_option linter.unusedVariables false
instance : Inhabited M1.Upd := ⟨M1.zeroU⟩

theorem isAggU (w : World) : (isAgg 38).run Tryz.prog w = .ok true w := by kernel_rfl

theorem sizeOfU (w : World) : (Go.sizeOf 38).run Tryz.prog w = .ok 13 w := by kernel_rfl

def ordU (u v : M1.Upd) : Int := M1.orI (M1.cmpI u.dr v.dr) (M1.cmpI u.dn v.dn)

theorem ltU (u v : M1.Upd) : ltOf ordU u v = M1.dahead u.dr u.dn v.dr v.dn := M1.dahead_cmp _ _ _ _

theorem swoU : SWO (ltOf ordU) where
 irrefl x := by rw [ltU]; simp [M1.dahead]
 trans x y z h1 h2 := by rw [ltU] at *; simp [M1.dahead] at *; omega
 ntrans x y z h1 h2 := by rw [ltU] at *; simp [M1.dahead] at *; omega

theorem cmpU (blk off size : Nat) (w : World) : CmpLays Tryz.prog 107 #[] ucs 13 ordU blk off size w :=
 fun _ _ _ _ x y => told1_grew x y _

theorem up_toArray (us : List M1.Upd) (i : Nat) : us.toArray[i]! = M1.up us i := by
 unfold M1.up
 by_cases h : i < us.length
 ·simp [h, List.getD]
 ·simp [h, List.getD]; rfl

theorem holdsU {w : World} {blk : Nat} {us : List M1.Upd} (h : RowAt w blk (us.length * 13) (ucell us)) : HoldsK ucs 13 w blk 0 us.toArray := by
 intro j hj
 have hj' : j < us.length * 13 := by simpa using hj
 have e : (flatK ucs 13 us.toArray)[j]! = ucell us j := by
  rw [get_flatK ucs 13 us.toArray j (by simpa using hj'), up_toArray]
  unfold ucell
  have : j % 13 < (ucs (M1.up us (j / 13))).length := by show j % 13 < 13; omega
  simp [List.getD, this]
 rw [Nat.zero_add, e]
 exact ⟨h.cell hj', h.free hj'⟩

theorem ofHoldsU {w : World} {blk : Nat} {us : List M1.Upd} (h : HoldsK ucs 13 w blk 0 us.toArray) (hb : blk < w.heap.size) : RowAt w blk (us.length * 13) (ucell us) := by
 refine ⟨hb, fun j hj => ?_⟩
 have hq := h j (by simpa using hj)
 have e : (flatK ucs 13 us.toArray)[j]! = ucell us j := by
  rw [get_flatK ucs 13 us.toArray j (by simpa using hj), up_toArray]
  unfold ucell
  have : j % 13 < (ucs (M1.up us (j / 13))).length := by show j % 13 < 13; omega
  simp [List.getD, this]
 rw [Nat.zero_add, e] at hq
 exact hq

theorem grSort (w : World) (blk n : Nat) (d : Array M1.Upd) (os : Array Obj) : Gr blk w (sortWorldK ucs 13 w blk 0 n d os) := by
 refine ⟨rfl, rfl, rfl, by simp [sortWorldK, grow, putRowK, putRow, mapBlock, ahead], fun k hk hn => ?_⟩
 have hne : ¬ blk = k := fun e => hn (by rw [e])
 show ((w.heap.modify blk (onCells (putCells id 0 (flatK ucs 13 d)))) ++ os)[k]? = w.heap[k]?
 rw [Array.getElem?_append_left (by simpa using hk), Array.getElem?_modify]
 simp [hne]

theorem sortU_any (blk cap : Nat) (us : List M1.Upd) (w : World) (hrow : RowAt w blk (us.length * 13) (ucell us)) (hn : us.length ≤ 1048576) :
  Calls Tryz.prog 106 #[.slice (some ⟨blk, 0, none⟩) us.length cap, .func (.func 107) #[] #[]] w fun e w' => e = .returned (.tuple #[]) ∧ ∃ ns : List M1.Upd, ns.Perm us ∧ (∀ i j, i < j → j < ns.length → M1.dahead (M1.up ns j).dr (M1.up ns j).dn (M1.up ns i).dr (M1.up ns i).dn = false) ∧ RowAt w' blk (us.length * 13) (ucell ns) ∧ Gr blk w w' := by
 have eg : ∀ args w, (callFunc 107 args).run Tryz.prog w = .ok (.enter 107 args) w := enters_of Tryz.func107 (by kernel_rfl) rfl
 have hcon := AnyQ.slices_SortFunc Tryz.sortU 13 isAggU sizeOfU ucs (fun _ => rfl) one13 ordU swoU 107 #[] blk 0 cap us.toArray w eg (cmpU blk 0 _ w) (holdsU hrow) hrow.lt (by simp; omega)
 simp only [List.size_toArray] at hcon
 refine Calls.mono hcon ?_
 rintro e w' ⟨rfl, d', n, os, hp, hs, rfl⟩
 obtain ⟨h1, _, h3⟩ := hp
 have hsz : d'.size = us.length := by simpa using h1
 have e1 : d'.extract 0 us.length = d' := by rw [← hsz]; simp
 have e2 : us.toArray.extract 0 us.length = us.toArray := by simp
 rw [e1, e2] at h3
 have hl : d'.toList.length = us.length := by simpa using hsz
 refine ⟨rfl, d'.toList, by simpa using h3, fun i j hij hj => ?_, ?_, grSort _ _ _ _ _⟩
 ·have := hs i j (Nat.zero_le _) hij (by omega)
  rw [ltU] at this
  have ea : ∀ i, d'[i]! = M1.up d'.toList i := fun i => by
   have := up_toArray d'.toList i
   simpa using this
  rwa [ea, ea] at this
 ·rw [← hl]
  refine ofHoldsU ?_ ?_
  ·have := holdsK_sortWorldK_c (enc := ucs) (k := 13) (w := w) (blk := blk) (off := 0) us.toArray d' n os (holdsU hrow) hrow.lt (by simpa using hsz)
   simpa using this
  ·have := size_sortWorldK_c (enc := ucs) (k := 13) (w := w) (blk := blk) (off := 0) n d' os
   have h2 := hrow.lt
   omega

theorem sortU_none (p : Option Addr) (cap : Nat) (fv : Value) (w : World) :
  Calls Tryz.prog 106 #[.slice p 0 cap, fv] w fun e w' => e = .returned (.tuple #[]) ∧ w' = w := AnyF.slices_SortFunc_none Tryz.sortU p cap fv w

end Go.Proofs.YtccendmoeelniaaGreatDoor
