/-
  The library's sort and compacting of numbers, as contracts on rows.
-/
import Derived.Test.YtnchbndgdkhldaaGreatZFound17
import Derived.Test.YtnchbndgdkhldaaGreatZFound18
namespace Go.Proofs.YtnchbndgdkhldaaGreat
open Go.ChangeShapes Go.WideShapes Go.ChangeAt Go.RowKit Go.Sort Go.Shelf Go.Lib
set_option linter.unusedSimpArgs false
set_option linter.unusedVariables false

theorem getD_toArray (zs : List Int) (i : Nat) : zs.toArray[i]! = zs.getD i 0 := by
  by_cases h : i < zs.length
  · simp [h, List.getD]
  · simp [h, List.getD]
theorem holdsI {w : World} {g : Nat} {zs : List Int} (h : RowAt w g zs.length (icell zs)) : Holds (Value.int .i64) w g 0 zs.toArray := by
  intro j hj
  have hj' : j < zs.length := by simpa using hj
  rw [Nat.zero_add, getD_toArray]
  exact ⟨h.cell hj', h.free hj'⟩
theorem ofHoldsI {w : World} {g m : Nat} {zs : List Int} (h : Holds (Value.int .i64) w g 0 zs.toArray) (hb : g < w.heap.size) (hm : m ≤ zs.length) : RowAt w g m (icell zs) := by
  refine ⟨hb, fun j hj => ?_⟩
  have hq := h j (by simp; omega)
  rw [Nat.zero_add, getD_toArray] at hq
  exact hq
theorem grPut (w : World) (g n : Nat) (d : Array Int) : Gr g w (putRow (Value.int .i64) (Sort.ahead w n) g 0 d) := by
  refine ⟨rfl, rfl, rfl, by simp [putRow, mapBlock, Sort.ahead], fun k hk hn => ?_⟩
  have hne : ¬ g = k := fun e => hn (by rw [e])
  show (w.heap.modify g (onCells (putCells (Value.int .i64) 0 d)))[k]? = w.heap[k]?
  rw [Array.getElem?_modify]
  simp [hne]
theorem grPutG (w : World) (g n : Nat) (d : Array Int) (os : Array Obj) : Gr g w (grow (putRow (Value.int .i64) (Sort.ahead w n) g 0 d) os) := by
  refine ⟨rfl, rfl, rfl, by simp [grow, putRow, mapBlock, Sort.ahead], fun k hk hn => ?_⟩
  have hne : ¬ g = k := fun e => hn (by rw [e])
  show ((w.heap.modify g (onCells (putCells (Value.int .i64) 0 d))) ++ os)[k]? = w.heap[k]?
  rw [Array.getElem?_append_left (by simpa using hk), Array.getElem?_modify]
  simp [hne]

def srt (zs : List Int) : List Int := zs.mergeSort fun x y => decide (x ≤ y)
theorem srt_len (zs : List Int) : (srt zs).length = zs.length := List.length_mergeSort _

theorem sortI_any (g cap : Nat) (zs : List Int) (w : World) (h : RowAt w g zs.length (icell zs)) (hn : zs.length ≤ 1048576) :
    Calls Tryz.prog 40 #[.slice (some ⟨g, 0, none⟩) zs.length cap] w fun e w' => e = .returned (.tuple #[]) ∧ RowAt w' g zs.length (icell (srt zs)) ∧ Gr g w w' := by
  have hH := holdsI h
  refine Calls.mono (AnyM.slices_Sort_int Tryz.sortI g 0 cap zs w hH h.lt (by omega)) ?_
  rintro e w' ⟨rfl, n, os, rfl⟩
  refine ⟨rfl, ?_, grPutG _ _ _ _ _⟩
  have hA := holds_ahead (Value.int .i64) w n g 0 zs.toArray hH
  have hP := holds_putRow (Value.int .i64) (Sort.ahead w n) g 0 zs.toArray (srt zs).toArray hA (by simp [srt_len])
  have hb : g < (putRow (Value.int .i64) (Sort.ahead w n) g 0 (srt zs).toArray).heap.size := by
    have := h.lt
    simpa [putRow, mapBlock, Sort.ahead] using this
  exact ofHoldsI (holds_grow _ _ os g 0 _ hb hP) (by have := h.lt; simp [grow, putRow, mapBlock, Sort.ahead]; omega) (by rw [srt_len]; exact Nat.le_refl _)

theorem sortI_none (p : Option Addr) (cap : Nat) (w : World) :
    Calls Tryz.prog 40 #[.slice p 0 cap] w fun e w' => e = .returned (.tuple #[]) ∧ w' = w := AnyM.slices_Sort_int_none Tryz.sortI p cap w

theorem compI_any (g cap : Nat) (zs : List Int) (w : World) (h : RowAt w g zs.length (icell zs)) (hn : zs.length ≤ 1048576) (hc : zs.length ≤ cap) (hl : (Lib.compact zs).length ≤ zs.length) :
    Calls Tryz.prog 41 #[.slice (some ⟨g, 0, none⟩) zs.length cap] w fun e w' => e = .returned (.slice (some ⟨g, 0, none⟩) (Lib.compact zs).length cap) ∧ RowAt w' g (Lib.compact zs).length (icell (Lib.compact zs)) ∧ Gr g w w' := by
  have hH := holdsI h
  refine Calls.mono (AnyG.slices_Compact_int Tryz.compI g 0 cap zs w hH (by omega) hc) ?_
  rintro e w' ⟨rfl, q, rfl⟩
  refine ⟨rfl, ?_, grPut _ _ _ _⟩
  have hA := holds_ahead (Value.int .i64) w q g 0 zs.toArray hH
  have hP := holds_putRow (Value.int .i64) (Sort.ahead w q) g 0 zs.toArray (Lib.compact zs ++ List.replicate (zs.length - (Lib.compact zs).length) 0).toArray hA (by simp; omega)
  have r := ofHoldsI (m := (Lib.compact zs).length) hP (by have := h.lt; simpa [putRow, mapBlock, Sort.ahead] using this) (by simp)
  refine r.same fun o ho => ?_
  unfold icell
  simp [List.getD, List.getElem?_append, ho]

theorem compI_none (p : Option Addr) (cap : Nat) (w : World) :
    Calls Tryz.prog 41 #[.slice p 0 cap] w fun e w' => e = .returned (.slice p 0 cap) ∧ w' = w := AnyG.slices_Compact_int_empty Tryz.compI p cap w
end Go.Proofs.YtnchbndgdkhldaaGreat
