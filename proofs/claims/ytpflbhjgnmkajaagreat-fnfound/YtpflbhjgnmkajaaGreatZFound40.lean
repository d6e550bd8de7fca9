/-
  Texts of one proof, joined: Math19, Told1, SortSL.
-/
import Derived.Test.YtpflbhjgnmkajaaGreatZFound32
import Derived.Test.YtpflbhjgnmkajaaGreatZFound37
import Derived.Test.YtpflbhjgnmkajaaGreatZFound39
import Derived.Test.YtpflbhjgnmkajaaGreatZFound14
import Derived.Test.YtpflbhjgnmkajaaGreatZFound08
import Derived.Sort.Grow
import Derived.Deep.Draws
import Derived.Shelf.SlSortCmp.WholeK
import Derived.Ground.SlsfProg
import Derived.Test.YtpflbhjgnmkajaaGreatProg
namespace M1
/-- A span of that service at that time. -/
def askB (sv : ByteArray) (fr tt : Int) (u : Upd) : Bool := (decide (u.s.toList = sv.toList) && decide (u.st ≤ tt)) && decide (fr ≤ u.en)
def hitB (us : List Upd) (sv : ByteArray) (fr tt t : Int) : Bool := visB us t && (sps us t).any (askB sv fr tt)
def winB (fr tt : Int) : Bool := (inB fr 0 1000000000 && inB tt 0 1000000000) && decide (fr ≤ tt)
def fnd (us : List Upd) (sv : ByteArray) (fr tt : Int) : List Int := if winB fr tt = true then (trs us).filter (hitB us sv fr tt) else []
/-- Of the first k traces those that are found. -/
def fndTo (us : List Upd) (sv : ByteArray) (fr tt : Int) (k : Nat) : List Int := ((trs us).take k).filter (hitB us sv fr tt)

theorem fndTo_step {us : List Upd} {sv : ByteArray} {fr tt : Int} {k : Nat} (hk : k < (trs us).length) :
    fndTo us sv fr tt (k + 1) = if hitB us sv fr tt ((trs us).getD k 0) = true then fndTo us sv fr tt k ++ [(trs us).getD k 0] else fndTo us sv fr tt k := by
  unfold fndTo
  rw [List.take_succ_eq_append_getElem hk, List.filter_append]
  have e : (trs us).getD k 0 = (trs us)[k] := by simp [List.getD, hk]
  rw [e]
  by_cases c : hitB us sv fr tt (trs us)[k] = true
  · rw [if_pos c]; simp [c]
  · rw [if_neg c]; simp [c]
theorem fndTo_all (us : List Upd) (sv : ByteArray) (fr tt : Int) : fndTo us sv fr tt (trs us).length = (trs us).filter (hitB us sv fr tt) := by
  unfold fndTo; rw [List.take_length]
theorem fndTo_len (us : List Upd) (sv : ByteArray) (fr tt : Int) (k : Nat) : (fndTo us sv fr tt k).length ≤ k := by
  unfold fndTo
  refine Nat.le_trans (List.length_filter_le _ _) ?_
  rw [List.length_take]; omega
theorem trs_rise (us : List Upd) : (trs us).Pairwise (· < ·) := by
  unfold trs
  split
  · exact (compact_sorted (srt_le _)).1
  · exact List.Pairwise.nil
theorem trs_len60 (us : List Upd) : (trs us).length ≤ 60 := by
  unfold trs
  split
  · rename_i h
    refine Nat.le_trans (comp_len _) (Nat.le_trans ?_ (setOk_len h))
    exact trTo_len us us.length
  · simp
theorem fndTo_lt {us : List Upd} {sv : ByteArray} {fr tt : Int} {k : Nat} (hk : k < (trs us).length) : ∀ x, x ∈ fndTo us sv fr tt k → x < (trs us).getD k 0 := by
  intro x hx
  unfold fndTo at hx
  have hm := (List.mem_filter.1 hx).1
  obtain ⟨j, hj, e⟩ := List.getElem_of_mem hm
  rw [List.length_take] at hj
  rw [List.getElem_take] at e
  have h := trs_rise us
  rw [List.pairwise_iff_getElem] at h
  have := h j k (by omega) hk (by omega)
  have e2 : (trs us).getD k 0 = (trs us)[k] := by simp [List.getD, hk]
  rw [e2, ← e]; exact this
theorem put_end {l r : List Int} {n : Int} (h : ∀ x, x ∈ l → x < n) (hp : PutI l n r) : r = l ++ [n] := by
  rcases hp with ⟨h1, _⟩ | ⟨_, k, hk, h2, h3, rfl⟩
  · have := h n h1; omega
  · have hkl : k = l.length := by
      rcases h3 with h3 | h3
      · exact h3
      · by_cases c : k = l.length
        · exact c
        · exfalso
          have hk' : k < l.length := by omega
          have hm : l[k] ∈ l := List.getElem_mem hk'
          have := h _ hm
          have e : l.getD k 0 = l[k] := by simp [List.getD, hk']
          rw [e] at h3
          omega
    rw [hkl]; simp
theorem put_again {l r : List Int} {n : Int} (h : n ∈ l) (hp : PutI l n r) : r = l := by
  rcases hp with ⟨_, e⟩ | ⟨h1, _⟩
  · exact e
  · exact absurd h h1
theorem fnd_no (us : List Upd) (sv : ByteArray) (fr tt : Int) (h : setOk us = false) : fnd us sv fr tt = [] := by
  unfold fnd
  have : trs us = [] := by unfold trs; rw [h]; rfl
  rw [this]; split <;> rfl
theorem win_spec (fr tt : Int) : winB fr tt = (inB fr 0 1000000000 && inB tt fr 1000000000) := by
  unfold winB inB
  rw [Bool.eq_iff_iff]; simp; omega
end M1

namespace Go.Proofs.YtpflbhjgnmkajaaGreat
open Go.ChangeShapes Go.WideShapes Go.ChangeAt Go.RowKit Go.Sort
set_option linter.unusedSimpArgs false
set_option linter.unusedVariables false

/-- Blocks laid and draws made, nothing else. -/
def Grew (w w' : World) : Prop := ∃ q os', w' = grow (w.drewN q) os'
theorem Grew.refl (w : World) : Grew w w := ⟨0, #[], by simp [grow, World.drewN]⟩
theorem Grew.alloc {w w' : World} (h : Grew w w') (o : Obj) : Grew w (w'.alloc o) := by
  obtain ⟨q, os', rfl⟩ := h
  exact ⟨q, os' ++ #[o], by rw [alloc_eq_grow, grow_grow]⟩
theorem Grew.drew {w w' : World} (h : Grew w w') : Grew w w'.drew := by
  obtain ⟨q, os', rfl⟩ := h
  exact ⟨q + 1, os', by simp [grow, World.drewN, World.drew, Nat.add_assoc]⟩
theorem Grew.trans {w w' w'' : World} (h : Grew w w') (h2 : Grew w' w'') : Grew w w'' := by
  obtain ⟨q, os', rfl⟩ := h
  obtain ⟨q2, os2, rfl⟩ := h2
  exact ⟨q + q2, os' ++ os2, by simp [grow, World.drewN, Array.append_assoc, Nat.add_assoc]⟩

end Go.Proofs.YtpflbhjgnmkajaaGreat

namespace Go.Proofs
open Go.Shelf
def Tryz.sortS_ren : Go.Shelf.Ren := ⟨fun | 6 => 33 | 15 => 47 | 14 => 55 | 28 => 73 | 29 => 74 | 20 => 77 | 21 => 78 | 22 => 79 | 23 => 80 | 24 => 81 | 25 => 82 | 26 => 83 | 27 => 84 | 46 => 91 | 47 => 87 | 48 => 88 | 49 => 92 | 50 => 93 | 57 => 96 | n => n, fun | 22 => 32 | 24 => 35 | 25 => 66 | 3 => 3 | 39 => 80 | 0 => 0 | 53 => 105 | 55 => 107 | 4 => 4 | 46 => 97 | 45 => 96 | 50 => 102 | 5 => 5 | 9 => 9 | 66 => 120 | 70 => 124 | 76 => 129 | 77 => 130 | n => n, fun | n => n⟩
theorem Tryz.sortS : Go.Proofs.SlLaysF0.n6 Tryz.prog Tryz.sortS_ren := {
  mixed := by kernel_rfl
  f6 := ⟨Tryz.f33.name, by decide, Tryz.func33.trans (congrArg some (by kernel_rfl))⟩
  f14 := ⟨Tryz.f55.name, by decide, Tryz.func55.trans (congrArg some (by kernel_rfl))⟩
  f15 := Tryz.func47.trans (congrArg some (by kernel_rfl))
  f20 := ⟨Tryz.f77.name, by decide, Tryz.func77.trans (congrArg some (by kernel_rfl))⟩
  f21 := ⟨Tryz.f78.name, by decide, Tryz.func78.trans (congrArg some (by kernel_rfl))⟩
  f22 := ⟨Tryz.f79.name, by decide, Tryz.func79.trans (congrArg some (by kernel_rfl))⟩
  f23 := ⟨Tryz.f80.name, by decide, Tryz.func80.trans (congrArg some (by kernel_rfl))⟩
  f24 := ⟨Tryz.f81.name, by decide, Tryz.func81.trans (congrArg some (by kernel_rfl))⟩
  f25 := ⟨Tryz.f82.name, by decide, Tryz.func82.trans (congrArg some (by kernel_rfl))⟩
  f26 := ⟨Tryz.f83.name, by decide, Tryz.func83.trans (congrArg some (by kernel_rfl))⟩
  f27 := ⟨Tryz.f84.name, by decide, Tryz.func84.trans (congrArg some (by kernel_rfl))⟩
  f28 := Tryz.func73.trans (congrArg some (by kernel_rfl))
  f29 := Tryz.func74.trans (congrArg some (by kernel_rfl))
  f46 := ⟨Tryz.f91.name, by decide, Tryz.func91.trans (congrArg some (by kernel_rfl))⟩
  f47 := Tryz.func87.trans (congrArg some (by kernel_rfl))
  f48 := Tryz.func88.trans (congrArg some (by kernel_rfl))
  f49 := ⟨Tryz.f92.name, by decide, Tryz.func92.trans (congrArg some (by kernel_rfl))⟩
  f50 := ⟨Tryz.f93.name, by decide, Tryz.func93.trans (congrArg some (by kernel_rfl))⟩
  f57 := ⟨Tryz.f96.name, by decide, Tryz.func96.trans (congrArg some (by kernel_rfl))⟩
  t0 := Tryz.underlying0
  a0 := Tryz.isAgg0
  z0 := Tryz.sizeOf0
  v0 := Tryz.zeroValue0
  t3 := Tryz.underlying3
  a3 := Tryz.isAgg3
  z3 := Tryz.sizeOf3
  v3 := Tryz.zeroValue3
  t4 := Tryz.underlying4
  a4 := Tryz.isAgg4
  z4 := Tryz.sizeOf4
  v4 := Tryz.zeroValue4
  t5 := Tryz.underlying5
  a5 := Tryz.isAgg5
  z5 := Tryz.sizeOf5
  v5 := Tryz.zeroValue5
  t9 := Tryz.underlying9
  a9 := Tryz.isAgg9
  z9 := Tryz.sizeOf9
  v9 := Tryz.zeroValue9
  t22 := Tryz.underlying32
  a22 := Tryz.isAgg32
  z22 := Tryz.sizeOf32
  v22 := Tryz.zeroValue32
  t25 := Tryz.underlying66
  a25 := Tryz.isAgg66
  z25 := Tryz.sizeOf66
  v25 := Tryz.zeroValue66
  t39 := Tryz.underlying80
  a39 := Tryz.isAgg80
  z39 := Tryz.sizeOf80
  v39 := Tryz.zeroValue80
  t45 := Tryz.underlying96
  a45 := Tryz.isAgg96
  z45 := Tryz.sizeOf96
  v45 := Tryz.zeroValue96
  t46 := Tryz.underlying97
  a46 := Tryz.isAgg97
  z46 := Tryz.sizeOf97
  v46 := Tryz.zeroValue97
  t50 := Tryz.underlying102
  a50 := Tryz.isAgg102
  z50 := Tryz.sizeOf102
  v50 := Tryz.zeroValue102
  t53 := Tryz.underlying105
  a53 := Tryz.isAgg105
  z53 := Tryz.sizeOf105
  v53 := Tryz.zeroValue105
  t55 := Tryz.underlying107
  a55 := Tryz.isAgg107
  z55 := Tryz.sizeOf107
  v55 := Tryz.zeroValue107
  t66 := Tryz.underlying120
  a66 := Tryz.isAgg120
  z66 := Tryz.sizeOf120
  v66 := Tryz.zeroValue120
  t70 := Tryz.underlying124
  a70 := Tryz.isAgg124
  z70 := Tryz.sizeOf124
  v70 := Tryz.zeroValue124
  t76 := Tryz.underlying129
  a76 := Tryz.isAgg129
  z76 := Tryz.sizeOf129
  v76 := Tryz.zeroValue129
  t77 := Tryz.underlying130
  a77 := Tryz.isAgg130
  z77 := Tryz.sizeOf130
  v77 := Tryz.zeroValue130 }
end Go.Proofs
