/-
  Texts of one proof, joined: Told1, SortL, Told2.
-/
import Derived.Test.YtbhidjagmonnaaaGreatDoorZSegments20
import Derived.Test.YtbhidjagmonnaaaGreatDoorZSegments18
import Derived.Sort.Grow
import Derived.Deep.Draws
import Derived.Shelf.SlSortCmp.WholeK
import Derived.Ground.SlsfProg
import Derived.Test.YtbhidjagmonnaaaGreatDoorProg
import Derived.Shelf.SlSortCmp.NoneTotal
namespace Go.Proofs.YtbhidjagmonnaaaGreatDoor
open Go.ChangeShapes Go.WideShapes Go.ChangeAt Go.RowKit Go.Sort
set_option linter.unusedSimpArgs false
set_option linter.unusedVariables false

/-- Blocks laid and draws made, nothing else. -/
def Grew (w w' : World) : Prop := ∃ q os', w' = grow (w.drewN q) os'
theorem Grew.refl (w : World) : Grew w w := ⟨0, #[], by simp [grow, World.drewN]⟩
theorem Grew.alloc {w w' : World} (h : Grew w w') (o : Obj) : Grew w (w'.alloc o) := by
  obtain ⟨q, os', rfl⟩ := h
  exact ⟨q, os' ++ #[o], by rw [alloc_eq_grow, grow_grow]⟩
theorem Grew.drew {w w' : World} (h : Grew w w') : Grew w w'.drew := by
  obtain ⟨q, os', rfl⟩ := h
  exact ⟨q + 1, os', by simp [grow, World.drewN, World.drew, Nat.add_assoc]⟩
theorem Grew.trans {w w' w'' : World} (h : Grew w w') (h2 : Grew w' w'') : Grew w w'' := by
  obtain ⟨q, os', rfl⟩ := h
  obtain ⟨q2, os2, rfl⟩ := h2
  exact ⟨q + q2, os' ++ os2, by simp [grow, World.drewN, Array.append_assoc, Nat.add_assoc]⟩

set_option maxHeartbeats 2000000 in
theorem dotOrder_grew (a b x y : Int) (w : World) :
    Calls Tryz.prog 95 #[.agg #[.int .i64 a, .int .i64 b], .agg #[.int .i64 x, .int .i64 y]] w fun e w' => e = .returned (.int .i64 (M1.orI (M1.cmpI a x) (M1.cmpI b y))) ∧ Grew w w' := by
  go_enter Tryz.func95, Tryz.ntmps95
  go_wp2_with fail
  refine wp_region_held_drew (S := fun w' => Kp ((w.alloc (Obj.cells #[Value.int IntKind.i64 a, Value.int IntKind.i64 b] 41)).alloc (Obj.cells #[Value.int IntKind.i64 x, Value.int IntKind.i64 y] 41)) w') (by kernel_rfl) ?_ (fun hHeld => ?_)
  · exact kp_zero _
  refine wpAnyH_take (i := 0) (v := ?_) rfl (by kernel_rfl) (by kernel_rfl) (by kernel_rfl) (fun _ _ _ h => h) (Or.inl ⟨by rfl, ?_⟩) hHeld ?_
  rotate_left
  · (intro w hSw; (try dsimp only at hSw); go_simp; try (with_reducible rfl))
  (try simp only [Act.put, aZ, bZ, cZ, dZ, eZ, fZ])
  refine wpAnyH_take (i := 1) (v := ?_) rfl (by kernel_rfl) (by kernel_rfl) (by kernel_rfl) (fun _ _ _ h => h) (Or.inl ⟨by rfl, ?_⟩) hHeld ?_
  rotate_left
  · (intro w hSw; (try dsimp only at hSw); go_simp; try (with_reducible rfl))
  (try simp only [Act.put, aZ, bZ, cZ, dZ, eZ, fZ])
  refine wpAnyH_take (i := 2) (v := ?_) rfl (by kernel_rfl) (by kernel_rfl) (by kernel_rfl) (fun _ _ _ h => h) (Or.inl ⟨by rfl, ?_⟩) hHeld ?_
  rotate_left
  · (intro w hSw; (try dsimp only at hSw); go_simp; try (with_reducible rfl))
  (try simp only [Act.put, aZ, bZ, cZ, dZ, eZ, fZ])
  refine wpAnyH_take (i := 3) (v := ?_) rfl (by kernel_rfl) (by kernel_rfl) (by kernel_rfl) (fun _ _ _ h => h) (Or.inl ⟨by rfl, ?_⟩) hHeld ?_
  rotate_left
  · (intro w hSw; (try dsimp only at hSw); go_simp; try (with_reducible rfl))
  (try simp only [Act.put, aZ, bZ, cZ, dZ, eZ, fZ])
  refine wpAnyH_take (i := 5) (v := ?_) rfl (by kernel_rfl) (by kernel_rfl) (by kernel_rfl) (fun _ _ _ h => h) (Or.inl ⟨by rfl, ?_⟩) hHeld ?_
  rotate_left
  · (intro w hSw; (try dsimp only at hSw); go_simp; try (with_reducible rfl))
  (try simp only [Act.put, aZ, bZ, cZ, dZ, eZ, fZ])
  refine wpAnyH_take (i := 6) (v := ?_) rfl (by kernel_rfl) (by kernel_rfl) (by kernel_rfl) (fun _ _ _ h => h) (Or.inl ⟨by rfl, ?_⟩) hHeld ?_
  rotate_left
  · (intro w hSw; (try dsimp only at hSw); go_simp; try (with_reducible rfl))
  (try simp only [Act.put, aZ, bZ, cZ, dZ, eZ, fZ])
  refine wpAnyH_take (i := 7) (v := ?_) rfl (by kernel_rfl) (by kernel_rfl) (by kernel_rfl) (fun _ _ _ h => h) (Or.inl ⟨by rfl, ?_⟩) hHeld ?_
  rotate_left
  · (intro w hSw; (try dsimp only at hSw); go_simp; try (with_reducible rfl))
  (try simp only [Act.put, aZ, bZ, cZ, dZ, eZ, fZ])
  refine wpAnyH_take (i := 8) (v := ?_) rfl (by kernel_rfl) (by kernel_rfl) (by kernel_rfl) (fun _ _ _ h => h) (Or.inl ⟨by rfl, ?_⟩) hHeld ?_
  rotate_left
  · (intro w hSw; (try dsimp only at hSw); go_simp; try (with_reducible rfl))
  (try simp only [Act.put, aZ, bZ, cZ, dZ, eZ, fZ])
  refine wpAnyH_ready (rs := [4]) (by kernel_rfl) (by simp) ?_
  refine AllReadyH.cons (o := _) rfl (fun K hK => ?_) AllReadyH.nil
  go_simp
  (refine (compare_any _ _ _).mono ?_; rintro e w' ⟨rfl, hbw⟩; subst hbw; go_wp2_with fail)
  refine hK.out _ _ ?_ (fun hHeld2 => ?_)
  · exact hHeld
  clear hK K hHeld
  have hHeld := hHeld2
  clear hHeld2
  (try simp only [Act.put, aZ, bZ, cZ, dZ, eZ, fZ])
  refine wpAnyH_ready (rs := [9]) (by kernel_rfl) (by simp) ?_
  refine AllReadyH.cons (o := _) rfl (fun K hK => ?_) AllReadyH.nil
  go_simp
  (refine (compare_any _ _ _).mono ?_; rintro e w' ⟨rfl, hbw⟩; subst hbw; go_wp2_with fail)
  refine hK.out _ _ ?_ (fun hHeld2 => ?_)
  · exact hHeld
  clear hK K hHeld
  have hHeld := hHeld2
  clear hHeld2
  (try simp only [Act.put, aZ, bZ, cZ, dZ, eZ, fZ])
  refine wpAnyH_ready (rs := [10]) (by kernel_rfl) (by simp) ?_
  refine AllReadyH.cons (o := _) rfl (fun K hK => ?_) AllReadyH.nil
  go_simp
  skip
  refine hK.out _ _ ?_ (fun hHeld2 => ?_)
  · exact kp_alloc hHeld _
  clear hK K hHeld
  have hHeld := hHeld2
  clear hHeld2
  (try simp only [Act.put, aZ, bZ, cZ, dZ, eZ, fZ])
  refine wpAnyH_ready (rs := [11]) (by kernel_rfl) (by simp) ?_
  refine AllReadyH.cons (o := _) rfl (fun K hK => ?_) AllReadyH.nil
  go_simp
  (refine (cmpOr_two (w.heap.size + 1 + 1) (M1.cmpI a x) (M1.cmpI b y) _ (by go_simp) (by go_simp)).mono ?_; rintro e w' ⟨rfl, hbw⟩; subst hbw; go_wp2_with fail)
  refine hK.out _ _ ?_ (fun hHeld2 => ?_)
  · exact hHeld
  clear hK K hHeld
  have hHeld := hHeld2
  clear hHeld2
  (try simp only [Act.put, aZ, bZ, cZ, dZ, eZ, fZ])
  refine wpAnyH_take (i := 12) (v := ?_) rfl (by kernel_rfl) (by kernel_rfl) (by kernel_rfl) (fun _ _ _ h => h) (Or.inl ⟨by rfl, ?_⟩) hHeld ?_
  rotate_left
  · (intro w hSw; (try dsimp only at hSw); go_simp; try (with_reducible rfl))
  (try simp only [Act.put, aZ, bZ, cZ, dZ, eZ, fZ])
  refine wpAnyH_done (by kernel_rfl) ?_ _
  clear hHeld
  go_wp2_with fail
  go_ret
  refine ⟨rfl, ?_⟩
  repeat (first | exact Grew.refl _ | refine Grew.drew ?_ | refine Grew.alloc ?_ _)

set_option maxHeartbeats 2000000 in
theorem told1_grew (u v : M1.Upd) (w : World) :
    Calls Tryz.prog 94 #[.agg #[.int .i64 u.dr, .int .i64 u.dn, .int .i64 u.sw, .int .i64 u.sc, .int .i64 u.sr, .int .i64 u.k, .int .i64 u.tr, .int .i64 u.id, .int .i64 u.pa, .string u.s, .int .i64 u.st, .int .i64 u.en, .int .i64 u.lv], .agg #[.int .i64 v.dr, .int .i64 v.dn, .int .i64 v.sw, .int .i64 v.sc, .int .i64 v.sr, .int .i64 v.k, .int .i64 v.tr, .int .i64 v.id, .int .i64 v.pa, .string v.s, .int .i64 v.st, .int .i64 v.en, .int .i64 v.lv]] w fun e w' => e = .returned (.int .i64 (M1.orI (M1.cmpI u.dr v.dr) (M1.cmpI u.dn v.dn))) ∧ Grew w w' := by
  go_enter Tryz.func94, Tryz.ntmps94
  go_wp2_with fail
  refine (dotOrder_grew _ _ _ _ _).mono ?_
  rintro e w1 ⟨rfl, hb1⟩
  go_wp2_with fail
  go_ret
  exact ⟨rfl, (((Grew.refl w).alloc _).alloc _).trans hb1⟩
end Go.Proofs.YtbhidjagmonnaaaGreatDoor

namespace Go.Proofs
open Go.Shelf
def Tryz.sortU_ren : Go.Shelf.Ren := ⟨fun | 6 => 93 | 15 => 109 | 14 => 108 | 28 => 128 | 29 => 115 | 20 => 120 | 21 => 121 | 22 => 122 | 23 => 123 | 24 => 124 | 25 => 125 | 26 => 126 | 27 => 127 | 46 => 135 | 47 => 136 | 48 => 137 | 49 => 138 | 50 => 139 | 57 => 144 | n => n, fun | 22 => 24 | 24 => 47 | 25 => 131 | 3 => 3 | 39 => 90 | 0 => 0 | 53 => 89 | 55 => 125 | 4 => 4 | 46 => 155 | 45 => 154 | 50 => 159 | 5 => 5 | 9 => 9 | 66 => 165 | 70 => 168 | 76 => 176 | 77 => 177 | n => n, fun | n => n⟩
theorem Tryz.sortU : Go.Proofs.SlLaysF0.n6 Tryz.prog Tryz.sortU_ren := {
  mixed := by kernel_rfl
  f6 := ⟨Tryz.f93.name, by decide, Tryz.func93.trans (congrArg some (by kernel_rfl))⟩
  f14 := ⟨Tryz.f108.name, by decide, Tryz.func108.trans (congrArg some (by kernel_rfl))⟩
  f15 := Tryz.func109.trans (congrArg some (by kernel_rfl))
  f20 := ⟨Tryz.f120.name, by decide, Tryz.func120.trans (congrArg some (by kernel_rfl))⟩
  f21 := ⟨Tryz.f121.name, by decide, Tryz.func121.trans (congrArg some (by kernel_rfl))⟩
  f22 := ⟨Tryz.f122.name, by decide, Tryz.func122.trans (congrArg some (by kernel_rfl))⟩
  f23 := ⟨Tryz.f123.name, by decide, Tryz.func123.trans (congrArg some (by kernel_rfl))⟩
  f24 := ⟨Tryz.f124.name, by decide, Tryz.func124.trans (congrArg some (by kernel_rfl))⟩
  f25 := ⟨Tryz.f125.name, by decide, Tryz.func125.trans (congrArg some (by kernel_rfl))⟩
  f26 := ⟨Tryz.f126.name, by decide, Tryz.func126.trans (congrArg some (by kernel_rfl))⟩
  f27 := ⟨Tryz.f127.name, by decide, Tryz.func127.trans (congrArg some (by kernel_rfl))⟩
  f28 := Tryz.func128.trans (congrArg some (by kernel_rfl))
  f29 := Tryz.func115.trans (congrArg some (by kernel_rfl))
  f46 := ⟨Tryz.f135.name, by decide, Tryz.func135.trans (congrArg some (by kernel_rfl))⟩
  f47 := Tryz.func136.trans (congrArg some (by kernel_rfl))
  f48 := Tryz.func137.trans (congrArg some (by kernel_rfl))
  f49 := ⟨Tryz.f138.name, by decide, Tryz.func138.trans (congrArg some (by kernel_rfl))⟩
  f50 := ⟨Tryz.f139.name, by decide, Tryz.func139.trans (congrArg some (by kernel_rfl))⟩
  f57 := ⟨Tryz.f144.name, by decide, Tryz.func144.trans (congrArg some (by kernel_rfl))⟩
  t0 := Tryz.underlying0
  a0 := Tryz.isAgg0
  z0 := Tryz.sizeOf0
  v0 := Tryz.zeroValue0
  t3 := Tryz.underlying3
  a3 := Tryz.isAgg3
  z3 := Tryz.sizeOf3
  v3 := Tryz.zeroValue3
  t4 := Tryz.underlying4
  a4 := Tryz.isAgg4
  z4 := Tryz.sizeOf4
  v4 := Tryz.zeroValue4
  t5 := Tryz.underlying5
  a5 := Tryz.isAgg5
  z5 := Tryz.sizeOf5
  v5 := Tryz.zeroValue5
  t9 := Tryz.underlying9
  a9 := Tryz.isAgg9
  z9 := Tryz.sizeOf9
  v9 := Tryz.zeroValue9
  t22 := Tryz.underlying24
  a22 := Tryz.isAgg24
  z22 := Tryz.sizeOf24
  v22 := Tryz.zeroValue24
  t25 := Tryz.underlying131
  a25 := Tryz.isAgg131
  z25 := Tryz.sizeOf131
  v25 := Tryz.zeroValue131
  t39 := Tryz.underlying90
  a39 := Tryz.isAgg90
  z39 := Tryz.sizeOf90
  v39 := Tryz.zeroValue90
  t45 := Tryz.underlying154
  a45 := Tryz.isAgg154
  z45 := Tryz.sizeOf154
  v45 := Tryz.zeroValue154
  t46 := Tryz.underlying155
  a46 := Tryz.isAgg155
  z46 := Tryz.sizeOf155
  v46 := Tryz.zeroValue155
  t50 := Tryz.underlying159
  a50 := Tryz.isAgg159
  z50 := Tryz.sizeOf159
  v50 := Tryz.zeroValue159
  t53 := Tryz.underlying89
  a53 := Tryz.isAgg89
  z53 := Tryz.sizeOf89
  v53 := Tryz.zeroValue89
  t55 := Tryz.underlying125
  a55 := Tryz.isAgg125
  z55 := Tryz.sizeOf125
  v55 := Tryz.zeroValue125
  t66 := Tryz.underlying165
  a66 := Tryz.isAgg165
  z66 := Tryz.sizeOf165
  v66 := Tryz.zeroValue165
  t70 := Tryz.underlying168
  a70 := Tryz.isAgg168
  z70 := Tryz.sizeOf168
  v70 := Tryz.zeroValue168
  t76 := Tryz.underlying176
  a76 := Tryz.isAgg176
  z76 := Tryz.sizeOf176
  v76 := Tryz.zeroValue176
  t77 := Tryz.underlying177
  a77 := Tryz.isAgg177
  z77 := Tryz.sizeOf177
  v77 := Tryz.zeroValue177 }
end Go.Proofs

namespace Go.Proofs.YtbhidjagmonnaaaGreatDoor
open Go.ChangeShapes Go.WideShapes Go.ChangeAt Go.RowKit Go.Sort Go.Shelf Go.Lib
set_option linter.unusedSimpArgs false
set_option linter.unusedVariables false

instance : Inhabited M1.Upd := ⟨M1.zeroU⟩
theorem isAggU (w : World) : (isAgg 47).run Tryz.prog w = .ok true w := by kernel_rfl
theorem sizeOfU (w : World) : (Go.sizeOf 47).run Tryz.prog w = .ok 13 w := by kernel_rfl

/-- The order of the dots, as the closure tells it. -/
def ordU (u v : M1.Upd) : Int := M1.orI (M1.cmpI u.dr v.dr) (M1.cmpI u.dn v.dn)
theorem ltU (u v : M1.Upd) : ltOf ordU u v = M1.dahead u.dr u.dn v.dr v.dn := M1.dahead_cmp _ _ _ _
theorem swoU : SWO (ltOf ordU) where
  irrefl x := by rw [ltU]; simp [M1.dahead]
  trans x y z h1 h2 := by rw [ltU] at *; simp [M1.dahead] at *; omega
  ntrans x y z h1 h2 := by rw [ltU] at *; simp [M1.dahead] at *; omega

theorem cmpU (blk off size : Nat) (w : World) : CmpLays Tryz.prog 94 #[] ucs 13 ordU blk off size w :=
  fun _ _ _ _ x y => told1_grew x y _

theorem up_toArray (us : List M1.Upd) (i : Nat) : us.toArray[i]! = M1.up us i := by
  unfold M1.up
  by_cases h : i < us.length
  · simp [h, List.getD]
  · simp [h, List.getD]; rfl

theorem holdsU {w : World} {blk : Nat} {us : List M1.Upd} (h : RowAt w blk (us.length * 13) (ucell us)) : HoldsK ucs 13 w blk 0 us.toArray := by
  intro j hj
  have hj' : j < us.length * 13 := by simpa using hj
  have e : (flatK ucs 13 us.toArray)[j]! = ucell us j := by
    rw [get_flatK ucs 13 us.toArray j (by simpa using hj'), up_toArray]
    unfold ucell
    have : j % 13 < (ucs (M1.up us (j / 13))).length := by show j % 13 < 13; omega
    simp [List.getD, this]
  rw [Nat.zero_add, e]
  exact ⟨h.cell hj', h.free hj'⟩
theorem ofHoldsU {w : World} {blk : Nat} {us : List M1.Upd} (h : HoldsK ucs 13 w blk 0 us.toArray) (hb : blk < w.heap.size) : RowAt w blk (us.length * 13) (ucell us) := by
  refine ⟨hb, fun j hj => ?_⟩
  have hq := h j (by simpa using hj)
  have e : (flatK ucs 13 us.toArray)[j]! = ucell us j := by
    rw [get_flatK ucs 13 us.toArray j (by simpa using hj), up_toArray]
    unfold ucell
    have : j % 13 < (ucs (M1.up us (j / 13))).length := by show j % 13 < 13; omega
    simp [List.getD, this]
  rw [Nat.zero_add, e] at hq
  exact hq
theorem grSort (w : World) (blk n : Nat) (d : Array M1.Upd) (os : Array Obj) : Gr blk w (sortWorldK ucs 13 w blk 0 n d os) := by
  refine ⟨rfl, rfl, rfl, by simp [sortWorldK, grow, putRowK, putRow, mapBlock, ahead], fun k hk hn => ?_⟩
  have hne : ¬ blk = k := fun e => hn (by rw [e])
  show ((w.heap.modify blk (onCells (putCells id 0 (flatK ucs 13 d)))) ++ os)[k]? = w.heap[k]?
  rw [Array.getElem?_append_left (by simpa using hk), Array.getElem?_modify]
  simp [hne]

theorem sortU_any (blk cap : Nat) (us : List M1.Upd) (w : World) (hrow : RowAt w blk (us.length * 13) (ucell us)) (hn : us.length ≤ 1048576) :
    Calls Tryz.prog 93 #[.slice (some ⟨blk, 0, none⟩) us.length cap, .func (.func 94) #[] #[]] w fun e w' => e = .returned (.tuple #[]) ∧ ∃ ns : List M1.Upd, ns.Perm us ∧ (∀ i j, i < j → j < ns.length → M1.dahead (M1.up ns j).dr (M1.up ns j).dn (M1.up ns i).dr (M1.up ns i).dn = false) ∧ RowAt w' blk (us.length * 13) (ucell ns) ∧ Gr blk w w' := by
  have eg : ∀ args w, (callFunc 94 args).run Tryz.prog w = .ok (.enter 94 args) w := enters_of Tryz.func94 (by kernel_rfl) rfl
  have hcon := AnyQ.slices_SortFunc Tryz.sortU 13 isAggU sizeOfU ucs (fun _ => rfl) one13 ordU swoU 94 #[] blk 0 cap us.toArray w eg (cmpU blk 0 _ w) (holdsU hrow) hrow.lt (by simp; omega)
  simp only [List.size_toArray] at hcon
  refine Calls.mono hcon ?_
  rintro e w' ⟨rfl, d', n, os, hp, hs, rfl⟩
  obtain ⟨h1, _, h3⟩ := hp
  have hsz : d'.size = us.length := by simpa using h1
  have e1 : d'.extract 0 us.length = d' := by rw [← hsz]; simp
  have e2 : us.toArray.extract 0 us.length = us.toArray := by simp
  rw [e1, e2] at h3
  have hl : d'.toList.length = us.length := by simpa using hsz
  refine ⟨rfl, d'.toList, by simpa using h3, fun i j hij hj => ?_, ?_, grSort _ _ _ _ _⟩
  · have := hs i j (Nat.zero_le _) hij (by omega)
    rw [ltU] at this
    have ea : ∀ i, d'[i]! = M1.up d'.toList i := fun i => by
      have := up_toArray d'.toList i
      simpa using this
    rwa [ea, ea] at this
  · rw [← hl]
    refine ofHoldsU ?_ ?_
    · have := holdsK_sortWorldK_c (enc := ucs) (k := 13) (w := w) (blk := blk) (off := 0) us.toArray d' n os (holdsU hrow) hrow.lt (by simpa using hsz)
      simpa using this
    · have := size_sortWorldK_c (enc := ucs) (k := 13) (w := w) (blk := blk) (off := 0) n d' os
      have h2 := hrow.lt
      omega

theorem sortU_none (p : Option Addr) (cap : Nat) (fv : Value) (w : World) :
    Calls Tryz.prog 93 #[.slice p 0 cap, fv] w fun e w' => e = .returned (.tuple #[]) ∧ w' = w := AnyF.slices_SortFunc_none Tryz.sortU p cap fv w
end Go.Proofs.YtbhidjagmonnaaaGreatDoor
