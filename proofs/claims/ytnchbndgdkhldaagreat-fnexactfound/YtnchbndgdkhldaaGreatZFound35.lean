/-
  Texts of one proof, joined: Math19, Told1.
-/
import Derived.Test.YtnchbndgdkhldaaGreatZFound25
import Derived.Test.YtnchbndgdkhldaaGreatZFound31
import Derived.Test.YtnchbndgdkhldaaGreatZFound34
import Derived.Test.YtnchbndgdkhldaaGreatZFound16
import Derived.Test.YtnchbndgdkhldaaGreatZFound07
import Derived.Sort.Grow
import Derived.Deep.Draws
namespace M1
/-- A span of that service at that time. -/
def askB (sv : ByteArray) (fr tt : Int) (u : Upd) : Bool := (decide (u.s.toList = sv.toList) && decide (u.st ≤ tt)) && decide (fr ≤ u.en)
def hitB (us : List Upd) (sv : ByteArray) (fr tt t : Int) : Bool := visB us t && (sps us t).any (askB sv fr tt)
def winB (fr tt : Int) : Bool := (inB fr 0 1000000000 && inB tt 0 1000000000) && decide (fr ≤ tt)
def fnd (us : List Upd) (sv : ByteArray) (fr tt : Int) : List Int := if winB fr tt = true then (trs us).filter (hitB us sv fr tt) else []
/-- Of the first k traces those that are found. -/
def fndTo (us : List Upd) (sv : ByteArray) (fr tt : Int) (k : Nat) : List Int := ((trs us).take k).filter (hitB us sv fr tt)

theorem fndTo_step {us : List Upd} {sv : ByteArray} {fr tt : Int} {k : Nat} (hk : k < (trs us).length) :
    fndTo us sv fr tt (k + 1) = if hitB us sv fr tt ((trs us).getD k 0) = true then fndTo us sv fr tt k ++ [(trs us).getD k 0] else fndTo us sv fr tt k := by
  unfold fndTo
  rw [List.take_succ_eq_append_getElem hk, List.filter_append]
  have e : (trs us).getD k 0 = (trs us)[k] := by simp [List.getD, hk]
  rw [e]
  by_cases c : hitB us sv fr tt (trs us)[k] = true
  · rw [if_pos c]; simp [c]
  · rw [if_neg c]; simp [c]
theorem fndTo_all (us : List Upd) (sv : ByteArray) (fr tt : Int) : fndTo us sv fr tt (trs us).length = (trs us).filter (hitB us sv fr tt) := by
  unfold fndTo; rw [List.take_length]
theorem fndTo_len (us : List Upd) (sv : ByteArray) (fr tt : Int) (k : Nat) : (fndTo us sv fr tt k).length ≤ k := by
  unfold fndTo
  refine Nat.le_trans (List.length_filter_le _ _) ?_
  rw [List.length_take]; omega
theorem trs_rise (us : List Upd) : (trs us).Pairwise (· < ·) := by
  unfold trs
  split
  · exact (compact_sorted (srt_le _)).1
  · exact List.Pairwise.nil
theorem trs_len60 (us : List Upd) : (trs us).length ≤ 60 := by
  unfold trs
  split
  · rename_i h
    refine Nat.le_trans (comp_len _) (Nat.le_trans ?_ (setOk_len h))
    exact trTo_len us us.length
  · simp
theorem fndTo_lt {us : List Upd} {sv : ByteArray} {fr tt : Int} {k : Nat} (hk : k < (trs us).length) : ∀ x, x ∈ fndTo us sv fr tt k → x < (trs us).getD k 0 := by
  intro x hx
  unfold fndTo at hx
  have hm := (List.mem_filter.1 hx).1
  obtain ⟨j, hj, e⟩ := List.getElem_of_mem hm
  rw [List.length_take] at hj
  rw [List.getElem_take] at e
  have h := trs_rise us
  rw [List.pairwise_iff_getElem] at h
  have := h j k (by omega) hk (by omega)
  have e2 : (trs us).getD k 0 = (trs us)[k] := by simp [List.getD, hk]
  rw [e2, ← e]; exact this
theorem put_end {l r : List Int} {n : Int} (h : ∀ x, x ∈ l → x < n) (hp : PutI l n r) : r = l ++ [n] := by
  rcases hp with ⟨h1, _⟩ | ⟨_, k, hk, h2, h3, rfl⟩
  · have := h n h1; omega
  · have hkl : k = l.length := by
      rcases h3 with h3 | h3
      · exact h3
      · by_cases c : k = l.length
        · exact c
        · exfalso
          have hk' : k < l.length := by omega
          have hm : l[k] ∈ l := List.getElem_mem hk'
          have := h _ hm
          have e : l.getD k 0 = l[k] := by simp [List.getD, hk']
          rw [e] at h3
          omega
    rw [hkl]; simp
theorem put_again {l r : List Int} {n : Int} (h : n ∈ l) (hp : PutI l n r) : r = l := by
  rcases hp with ⟨_, e⟩ | ⟨h1, _⟩
  · exact e
  · exact absurd h h1
theorem fnd_no (us : List Upd) (sv : ByteArray) (fr tt : Int) (h : setOk us = false) : fnd us sv fr tt = [] := by
  unfold fnd
  have : trs us = [] := by unfold trs; rw [h]; rfl
  rw [this]; split <;> rfl
theorem win_spec (fr tt : Int) : winB fr tt = (inB fr 0 1000000000 && inB tt fr 1000000000) := by
  unfold winB inB
  rw [Bool.eq_iff_iff]; simp; omega
end M1

namespace Go.Proofs.YtnchbndgdkhldaaGreat
open Go.ChangeShapes Go.WideShapes Go.ChangeAt Go.RowKit Go.Sort
set_option linter.unusedSimpArgs false
set_option linter.unusedVariables false

/-- Blocks laid and draws made, nothing else. -/
def Grew (w w' : World) : Prop := ∃ q os', w' = grow (w.drewN q) os'
theorem Grew.refl (w : World) : Grew w w := ⟨0, #[], by simp [grow, World.drewN]⟩
theorem Grew.alloc {w w' : World} (h : Grew w w') (o : Obj) : Grew w (w'.alloc o) := by
  obtain ⟨q, os', rfl⟩ := h
  exact ⟨q, os' ++ #[o], by rw [alloc_eq_grow, grow_grow]⟩
theorem Grew.drew {w w' : World} (h : Grew w w') : Grew w w'.drew := by
  obtain ⟨q, os', rfl⟩ := h
  exact ⟨q + 1, os', by simp [grow, World.drewN, World.drew, Nat.add_assoc]⟩
theorem Grew.trans {w w' w'' : World} (h : Grew w w') (h2 : Grew w' w'') : Grew w w'' := by
  obtain ⟨q, os', rfl⟩ := h
  obtain ⟨q2, os2, rfl⟩ := h2
  exact ⟨q + q2, os' ++ os2, by simp [grow, World.drewN, Array.append_assoc, Nat.add_assoc]⟩

end Go.Proofs.YtnchbndgdkhldaaGreat
