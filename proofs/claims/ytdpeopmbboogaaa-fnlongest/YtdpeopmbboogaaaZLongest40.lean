/-
  Texts of one proof, joined: Level, Clone, Math8.
-/
import Derived.Test.YtdpeopmbboogaaaZLongest39
import Derived.Test.YtdpeopmbboogaaaZLongest10
import Derived.Test.YtdpeopmbboogaaaZLongest04
import Derived.Lib.Strings
import Derived.Lib.Walk
import Derived.Lib.BufferWrite
import Derived.Lib.UnsafeStr
import Derived.Lib.Hide
import Derived.Laws.MakeOwn
import Derived.Test.YtdpeopmbboogaaaZLongest05
namespace M1
/-- The greatest level. -/
def lvl (xs : List Upd) : Int := xs.foldl (fun m u => max m u.lv) 0
theorem lvl_snoc (xs : List Upd) (u : Upd) : lvl (xs ++ [u]) = max (lvl xs) u.lv := by simp [lvl]
def levelOf (us : List Upd) (tr : Int) : Int := if setOk us = true then lvl (ofT 3 tr us us.length) else -1
end M1
namespace Go.Proofs.Ytdpeopmbboogaaa
open Go.ChangeShapes Go.WideShapes Go.ChangeAt Go.RowKit Go.Shelf
set_option linter.unusedSimpArgs false
attribute [local go_sem] Oper.semAt_some

/-- A block that holds just one update. -/
def UBox (W : World) (B : Nat) (u : M1.Upd) : Prop := W.heap[B]? = some (.cells #[.int .i64 u.dr, .int .i64 u.dn, .int .i64 u.sw, .int .i64 u.sc, .int .i64 u.sr, .int .i64 u.k, .int .i64 u.tr, .int .i64 u.id, .int .i64 u.pa, .string u.s, .int .i64 u.st, .int .i64 u.en, .int .i64 u.lv] 63 (0, 0))
theorem UBox.lt {W : World} {B : Nat} {u : M1.Upd} (h : UBox W B u) : B < W.heap.size := (Array.getElem?_eq_some_iff.1 h).1
theorem UBox.new (W : World) (u : M1.Upd) : UBox (W.alloc (.cells #[.int .i64 u.dr, .int .i64 u.dn, .int .i64 u.sw, .int .i64 u.sc, .int .i64 u.sr, .int .i64 u.k, .int .i64 u.tr, .int .i64 u.id, .int .i64 u.pa, .string u.s, .int .i64 u.st, .int .i64 u.en, .int .i64 u.lv] 63)) W.heap.size u := World.alloc_heap_new W _
theorem ubox_own {β : Type} (B : Nat) (f : β → M1.Upd) : Own (fun s W => UBox W B (f s)) := fun s X Y row hs hg hrow =>
  (hg.block B hs.lt (fun e' => by obtain ⟨o, ho, hc⟩ := hrow B e'.symm; rw [show X.heap[B]? = _ from hs] at ho; cases ho; cases hc)).trans hs

theorem ofTrace_stops (F : Fence) (n : Nat) (hF : F.fn 67) (hro : F.round = none) (hn : 1 ≤ n) (B : Nat) (av : Option Addr) (len cap : Nat) (kd tr : Int) (us : List M1.Upd) (W0 : World) (h1 : IsUpds W0 av len cap us) (w : World) (hB0 : Below W0.heap.size W0 w) (hBs : B + 3 ≤ w.heap.size)
    (b0 : w.cell? ⟨B, 0, none⟩ = some (.slice av len cap)) (b1 : w.cell? ⟨B + 1, 0, none⟩ = some (.int .i64 kd)) (b2 : w.cell? ⟨B + 1 + 1, 0, none⟩ = some (.int .i64 tr)) :
    SeqStopsK F n Try.prog 67 #[.pointer (some ⟨B, 0, none⟩), .pointer (some ⟨B + 1, 0, none⟩), .pointer (some ⟨B + 1 + 1, 0, none⟩)] (fun x : M1.Upd => #[Value.agg #[.int .i64 x.dr, .int .i64 x.dn, .int .i64 x.sw, .int .i64 x.sc, .int .i64 x.sr, .int .i64 x.k, .int .i64 x.tr, .int .i64 x.id, .int .i64 x.pa, .string x.s, .int .i64 x.st, .int .i64 x.en, .int .i64 x.lv]]) (KpI W0.heap.size B) (fun ys => ys = M1.ofT kd tr us len) (fun pre => ∃ k, k ≤ len ∧ pre = M1.ofT kd tr us k) len w := fun l J Jx W hW hAJ _ hY h0 =>
  ofTrace1_in F n hF hro hn l B W0.heap.size av len cap kd tr us W0 rfl h1 J Jx W.heap.size hAJ hY W (hB0.trans (hW.mono hB0.size)) (by have := hW.size; omega)
    ((hW.cell (p := ⟨B, 0, none⟩) (by show B < w.heap.size; omega)).trans b0) ((hW.cell (p := ⟨B + 1, 0, none⟩) (by show B + 1 < w.heap.size; omega)).trans b1) ((hW.cell (p := ⟨B + 1 + 1, 0, none⟩) (by show B + 1 + 1 < w.heap.size; omega)).trans b2) h0

end Go.Proofs.Ytdpeopmbboogaaa

namespace Go.Proofs.Ytdpeopmbboogaaa
open Go.ChangeShapes Go.WideShapes Go.ChangeAt Go.RowKit
set_option linter.unusedSimpArgs false

theorem infoU8 : (Try.prog.info? 5).map (fun i => (i.zero, i.size, i.bytes)) = some (some (.int .u8 0), 1, 1) := by kernel_rfl

set_option maxHeartbeats 4000000 in
set_option maxRecDepth 100000 in
theorem litClone_any (s : ByteArray) (w : World) (hlim : s.size ≤ 1000) :
    Calls Try.prog 92 #[.string s] w fun e w' => e = .returned (.string s) ∧ Below w.heap.size w w' := by
  by_cases h0 : s.size = 0
  · have hs : s = ⟨#[]⟩ := ByteArray.ext (Array.eq_empty_of_size_eq_zero h0)
    subst hs
    go_enter Try.func92, Try.ntmps92
    go_wp2
    go_ret
    exact ⟨rfl, Below.refl _ _⟩
  · obtain ⟨i0, hi, hz0, hz1, hz2⟩ : ∃ i, Try.prog.info? 5 = some i ∧ i.zero = some (.int .u8 0) ∧ i.size = 1 ∧ i.bytes = 1 := by
      have h := infoU8
      cases e : Try.prog.info? 5 with
      | none => rw [e] at h; cases h
      | some i => rw [e] at h; simp at h; exact ⟨i, rfl, h.1, h.2.1, h.2.2⟩
    have hinfo : (Try.prog.info? 5).map (·.size) = some 1 := by rw [hi]; simp [hz1]
    have hco : Try.prog.cellsOf 5 = 1 := by simp [Program.cellsOf, hi, hz1]
    -- the row that is made
    obtain ⟨M, hM⟩ : ∃ M, M = madeCells (Value.int .u8 0).cells (((s.size : Nat) : Int).toNat * i0.size) := ⟨_, rfl⟩
    have hMs : M.size = s.size := by rw [hM, size_madeCells, hz1]; simp
    have hmk : ∀ W : World, (Instr.makeSlice 22 (.int .i64 (s.size : Int)) (.int .i64 (s.size : Int))).run Try.prog W = .ok (.slice (some ⟨W.heap.size, 0, none⟩) s.size s.size) (W.alloc (.cells M 5)) := fun W => by
      have h := run_make (P := Try.prog) W 22 5 i0 (.int .u8 0) Try.underlying22 hi hz0 .i64 .i64 (s.size : Int) (s.size : Int) (by omega) (by omega) (by rw [hz2]; omega) (by omega)
      rw [← hM] at h
      simpa using h
    clear hM
    -- the bytes that are copied into it
    have hcp := Lib.run_copy_row_string (P := Try.prog) (w.alloc (.cells M 5)) 22 9 3 5 w.heap.size 0 s.size s.size s M 5 Try.underlying22 hinfo (heap_alloc_new w _) (Nat.le_refl _) (by omega)
    obtain ⟨Y, hY⟩ : ∃ Y, Y = (M.toList.take 0 ++ Lib.byteCells s.data.toList ++ M.toList.drop (0 + s.size)).toArray := ⟨_, rfl⟩
    rw [← hY] at hcp
    have hYl : Y.toList = Lib.byteCells s.data.toList := by
      rw [hY, List.toList_toArray, List.take_zero, List.nil_append, List.drop_of_length_le (by rw [Array.length_toList]; omega), List.append_nil]
    have hYs : Y.size = s.size := by rw [← Array.length_toList, hYl, Lib.byteCells_length, ← Lib.size_eq]
    have hgY : ((w.alloc (.cells M 5)).setRow w.heap.size Y).heap[w.heap.size]? = some (.cells Y 5 (0, 0)) := setRow_heap _ _ M _ 5 (0, 0) (heap_alloc_new w _)
    -- the text over it
    have hne : s.data.toList ≠ [] := fun e => h0 (by rw [Lib.size_eq, e]; rfl)
    have hUS := Lib.run_unsafeString_row (P := Try.prog) ((w.alloc (.cells M 5)).setRow w.heap.size Y) 146 3 9 5 Try.underlying146 hco w.heap.size Y.size (by unfold World.shape?; rw [hgY]) s.data.toList hne (by rw [← Lib.size_eq]; omega) (by rw [← Lib.size_eq]; omega)
      (fun j x hx => Lib.cells_of_row hgY Y.size j _ (by rw [List.take_of_length_le (by rw [Array.length_toList]; exact Nat.le_refl _), hYl]; simp [Lib.byteCells, hx]))
    rw [← Lib.size_eq] at hUS
    clear hY
    go_enter Try.func92, Try.ntmps92
    go_wp2
    go_ret
    have hb1 : Below w.heap.size w (w.alloc (.cells M 5)) := (Below.refl _ w).alloc (Nat.le_refl _) _
    have hb2 : Below w.heap.size (w.alloc (.cells M 5)) ((w.alloc (.cells M 5)).setRow w.heap.size Y) := ⟨rfl, rfl, rfl, by simp, fun k hk => setRow_other _ _ _ _ (by omega)⟩
    exact ⟨rfl, Lib.below_freeze (hb1.trans hb2) (p := ⟨w.heap.size, 0, none⟩) (Nat.le_refl _) _⟩

theorem clone_any (s : ByteArray) (w : World) (hlim : s.size ≤ 1000) :
    Calls Try.prog 68 #[.string s] w fun e w' => e = .returned (.string s) ∧ Below w.heap.size w w' := by
  go_enter Try.func68, Try.ntmps68
  go_wp2_with fail
  refine (litClone_any _ _ hlim).mono ?_
  rintro e w1 ⟨rfl, hb1⟩
  go_wp2_with fail
  go_ret
  exact ⟨rfl, hb1⟩

set_option maxHeartbeats 2000000 in
theorem copyOf_any (u : M1.Upd) (w : World) (hlim : u.s.size ≤ 1000) :
    Calls Try.prog 42 #[.agg #[.int .i64 u.dr, .int .i64 u.dn, .int .i64 u.sw, .int .i64 u.sc, .int .i64 u.sr, .int .i64 u.k, .int .i64 u.tr, .int .i64 u.id, .int .i64 u.pa, .string u.s, .int .i64 u.st, .int .i64 u.en, .int .i64 u.lv]] w fun e w' => e = .returned (.agg #[.int .i64 u.dr, .int .i64 u.dn, .int .i64 u.sw, .int .i64 u.sc, .int .i64 u.sr, .int .i64 u.k, .int .i64 u.tr, .int .i64 u.id, .int .i64 u.pa, .string u.s, .int .i64 u.st, .int .i64 u.en, .int .i64 u.lv]) ∧ Below w.heap.size w w' := by
  go_enter Try.func42, Try.ntmps42
  go_wp2_with fail
  refine (clone_any _ _ hlim).mono ?_
  rintro e w1 ⟨rfl, hb1⟩
  obtain ⟨hc1, hf1⟩ := bcell hb1
  have hz1 := hb1.size
  simp at hz1
  have hz1a : w.heap.size < w1.heap.size := by omega
  have hz1b : w.heap.size + 1 < w1.heap.size := by omega
  have c9 : (w1.setCell ⟨w.heap.size, 9, none⟩ (.string u.s)).cell? ⟨w.heap.size, 9, none⟩ = some (.string u.s) := cell_set_same _ _ _ (by rw [hc1 _ _ (by simp; omega)]; simp)
  go_wp2_with fail
  refine bodyPost_ret (v := .agg #[.int .i64 u.dr, .int .i64 u.dn, .int .i64 u.sw, .int .i64 u.sc, .int .i64 u.sr, .int .i64 u.k, .int .i64 u.tr, .int .i64 u.id, .int .i64 u.pa, .string u.s, .int .i64 u.st, .int .i64 u.en, .int .i64 u.lv]) (by simp [results, Try.results42, go_sem, cell_set_same, hc1, hz1a, hz1b]) rfl ⟨rfl, ?_⟩
  repeat (first | (with_reducible exact Below.refl _ _) | ((with_reducible refine Below.setCell ?_ ?_ _); rotate_left; (focus (first | omega | (simp; done) | (simp; omega)))) | ((with_reducible refine Below.alloc ?_ ?_ _); rotate_left; (focus (first | omega | (simp; done) | (simp; omega)))) | (with_reducible refine Below.drew ?_) | ((with_reducible refine Below.trans ?_ (Below.mono hb1 ?_)); rotate_left; (focus (first | omega | (simp; done) | (simp; omega)))))
end Go.Proofs.Ytdpeopmbboogaaa

namespace M1
/-- Of the first k updates the first, at most most, that the vector does not cover. -/
def sinceTo (us : List Upd) (ds : List (Int × Int)) (most : Int) : Nat → List Upd
  | 0 => []
  | k + 1 => if ((sinceTo us ds most k).length : Int) < most ∧ lk ds (up us k).dr < (up us k).dn then sinceTo us ds most k ++ [up us k] else sinceTo us ds most k
theorem since_yes {us : List Upd} {ds : List (Int × Int)} {most : Int} {k : Nat} (h : ((sinceTo us ds most k).length : Int) < most ∧ lk ds (up us k).dr < (up us k).dn) : sinceTo us ds most (k + 1) = sinceTo us ds most k ++ [up us k] := if_pos h
theorem since_no {us : List Upd} {ds : List (Int × Int)} {most : Int} {k : Nat} (h : ¬ (((sinceTo us ds most k).length : Int) < most ∧ lk ds (up us k).dr < (up us k).dn)) : sinceTo us ds most (k + 1) = sinceTo us ds most k := if_neg h
theorem since_len (us : List Upd) (ds : List (Int × Int)) (most : Int) : ∀ k, (sinceTo us ds most k).length ≤ k
  | 0 => Nat.le_refl _
  | k + 1 => by
    have := since_len us ds most k
    by_cases h : ((sinceTo us ds most k).length : Int) < most ∧ lk ds (up us k).dr < (up us k).dn
    · rw [since_yes h]; simp; omega
    · rw [since_no h]; omega
theorem since_full {us : List Upd} {ds : List (Int × Int)} {most : Int} {k : Nat} (h : most ≤ ((sinceTo us ds most k).length : Int)) : ∀ j, sinceTo us ds most (k + j) = sinceTo us ds most k
  | 0 => rfl
  | j + 1 => by
    have ih := since_full h j
    show sinceTo us ds most (k + j + 1) = _
    rw [since_no (by rw [ih]; omega), ih]
theorem since_end {us : List Upd} {ds : List (Int × Int)} {most : Int} {k n : Nat} (h : most ≤ ((sinceTo us ds most k).length : Int)) (hk : k ≤ n) : sinceTo us ds most n = sinceTo us ds most k := by
  have := since_full h (n - k)
  rwa [show k + (n - k) = n from by omega] at this
theorem since_mem {us : List Upd} {ds : List (Int × Int)} {most : Int} : ∀ (k : Nat) (x : Upd), x ∈ sinceTo us ds most k → ∃ j, j < k ∧ x = up us j
  | 0, x, h => by cases h
  | k + 1, x, h => by
    by_cases q : ((sinceTo us ds most k).length : Int) < most ∧ lk ds (up us k).dr < (up us k).dn
    · rw [since_yes q] at h
      rcases List.mem_append.1 h with h | h
      · obtain ⟨j, hj, e⟩ := since_mem k x h; exact ⟨j, by omega, e⟩
      · simp at h; exact ⟨k, by omega, h⟩
    · rw [since_no q] at h
      obtain ⟨j, hj, e⟩ := since_mem k x h; exact ⟨j, by omega, e⟩
def sinceOk (us : List Upd) (ds : List (Int × Int)) (most : Int) : Bool := setOk us && (vecOk ds && inB most 1 60)
def sinceL (us : List Upd) (ds : List (Int × Int)) (most : Int) : List Upd := if sinceOk us ds most = true then sinceTo us ds most us.length else []
theorem sinceL_len (us : List Upd) (ds : List (Int × Int)) (most : Int) : (sinceL us ds most).length ≤ us.length := by
  unfold sinceL; split
  · exact since_len _ _ _ _
  · simp
theorem up_mem {us : List Upd} {i : Nat} (h : i < us.length) : up us i ∈ us := by
  unfold up; simp [List.getD, h]
theorem sinceL_txt {us : List Upd} {ds : List (Int × Int)} {most : Int} {b : Nat} (h : ∀ i, i < us.length → (up us i).s.size ≤ b) : ∀ i, i < (sinceL us ds most).length → (up (sinceL us ds most) i).s.size ≤ b := by
  intro i hi
  have hm := up_mem hi
  unfold sinceL at hm hi ⊢
  by_cases q : sinceOk us ds most = true
  · rw [if_pos q] at hm ⊢
    obtain ⟨j, hj, e⟩ := since_mem _ _ hm
    rw [e]; exact h j hj
  · rw [if_neg q] at hi; simp at hi
theorem toList_len (s : ByteArray) : s.toList.length = s.size := by
  have key : ∀ (n i : Nat) (r : List UInt8), s.size - i = n → (ByteArray.toList.loop s i r).length = r.length + n := by
    intro n
    induction n with
    | zero => intro i r h; unfold ByteArray.toList.loop; rw [if_neg (by omega)]; simp
    | succ n ih => intro i r h; unfold ByteArray.toList.loop; rw [if_pos (by omega), ih (i + 1) _ (by omega)]; simp; omega
  have := key s.size 0 [] (by omega)
  simpa [ByteArray.toList] using this
theorem ok_txt {u : Upd} (h : okU u = true) : u.s.size ≤ 12 := by
  unfold okU updB kindB at h
  rw [Bool.and_eq_true] at h
  have h2 := h.2
  by_cases k1 : u.k = 1
  · rw [if_pos k1] at h2
    simp [spanB, nameB] at h2
    exact h2.1.1.1.2.1.2
  · rw [if_neg k1] at h2
    have key : zeroB u.id u.pa u.s u.st u.en = true → u.s.size ≤ 12 := by
      intro hz
      simp [zeroB] at hz
      have h3 := toList_len u.s
      rw [hz.1.1.2] at h3
      simp at h3
      omega
    by_cases k2 : u.k = 2
    · rw [if_pos k2] at h2; simp at h2; exact key h2.1
    · rw [if_neg k2] at h2
      by_cases k3 : u.k = 3
      · rw [if_pos k3] at h2; simp at h2; exact key h2.1
      · rw [if_neg k3] at h2; cases h2
end M1
