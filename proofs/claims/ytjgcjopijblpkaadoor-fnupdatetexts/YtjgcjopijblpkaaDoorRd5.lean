/-
  The contracts of strings.Split at a blank and of the program's withChange.
-/
import Derived.Test.YtjgcjopijblpkaaDoorRd4
import Derived.Lib.CountLaws
namespace M1
open Go
theorem spl_count : ∀ (n : Nat) (l : List UInt8), l.length ≤ n → (spl l).length = Lib.count l [32] + 1 := by
  intro n
  induction n with
  | zero =>
    intro l hl
    have e : l = [] := List.eq_nil_of_length_eq_zero (by omega)
    subst e
    rfl
  | succ n ih =>
    intro l hl
    rcases index_32 l with ⟨h1, h2⟩ | ⟨a, b, h1, h2, h3⟩
    · rw [Lib.count_miss h1, spl_word h2]; rfl
    · have hd : l.drop (a.length + 1) = b := by rw [h1, show a.length + 1 = a.length + 1 from rfl, ← List.drop_drop]; simp
      have ihb := ih b (by rw [h1] at hl; simp at hl; omega)
      rw [Lib.count_hit (by simp) h3]
      have hd' : l.drop (a.length + ([32] : List UInt8).length) = b := hd
      rw [hd']
      have e : spl l = a :: spl b := by
        have := spl_app b h2
        rw [← h1] at this; exact this
      rw [e, List.length_cons, ihb]
      omega
end M1
namespace Go.Proofs.YtjgcjopijblpkaaDoor
open Go.ChangeShapes Go.WideShapes Go.ChangeAt Go.RowKit Go.Shelf
set_option linter.unusedSimpArgs false
set_option linter.unusedVariables false

theorem split_wB (s : ByteArray) : Lib.splitB ⟨#[32]⟩ 0 (Lib.countB s ⟨#[32]⟩) s = wB s.data.toList := by
  have h := Lib.splitB_data ⟨#[32]⟩ 0 (Lib.countB s ⟨#[32]⟩) s
  have h2 : Lib.splitK (⟨#[32]⟩ : ByteArray).data.toList 0 (Lib.countB s ⟨#[32]⟩) s.data.toList = M1.spl s.data.toList := M1.split_spl s.data.toList.length s.data.toList (Nat.le_refl _)
  rw [h2] at h
  unfold wB
  rw [← h, List.map_map]
  have : (M1.mkB ∘ fun x : ByteArray => x.data.toList) = id := by
    funext x
    exact M1.mkB_of x
  rw [this, List.map_id]
theorem strb_cell {w : World} {g : Nat} {xs : List ByteArray} (h : w.heap[g]? = some (.cells (xs.map Value.string).toArray 9 (0, 0))) {k : Nat} (hk : k < xs.length) : w.cell? ⟨g, k, none⟩ = some (.string (xs.getD k ByteArray.empty)) := by
  simp [World.cell?, h, hk, List.getD]
set_option maxRecDepth 100000 in
theorem split_any (s : ByteArray) (m : Int) (w : World) (hs : s.size ≤ 1048576) (hm : w.cell? ⟨1, 0, none⟩ = some (.int .i64 m)) :
    Calls Tryd.prog 29 #[.string s, .string ⟨#[32]⟩] w fun e w' => (∃ n, e = .returned (.slice (some ⟨w.heap.size, 0, none⟩) n n) ∧ WdsAt w' w.heap.size 0 n n (wB s.data.toList)) ∧ Below w.heap.size w w' := by
  have ct : Calls Tryd.prog 29 #[.string s, .string ⟨#[32]⟩] w fun e w' => e = .returned (.slice (some ⟨w.heap.size, 0, none⟩) (Lib.countB s ⟨#[32]⟩ + 1) (Lib.countB s ⟨#[32]⟩ + 1)) ∧ w' = w.alloc (.cells ((Lib.splitB ⟨#[32]⟩ 0 (Lib.countB s ⟨#[32]⟩) s).map Value.string).toArray 9) :=
    Any.strings_Split { Tryd.laySplit with } Tryd.laySplit.i9 s ⟨#[32]⟩ m w (by omega) hm (by decide)
  refine ct.mono ?_
  rintro e w' ⟨rfl, rfl⟩
  rw [split_wB]
  have hl : (wB s.data.toList).length = Lib.countB s ⟨#[32]⟩ + 1 := by
    unfold wB
    rw [List.length_map, M1.spl_count s.data.toList.length s.data.toList (Nat.le_refl _)]
  have hle := wB_len s.data.toList
  rw [M1.len_list, hl] at hle
  refine ⟨⟨_, rfl, hl, Nat.le_refl _, by unfold maxLen; omega, by simp, fun i hi => ?_⟩, (Below.refl _ _).alloc (Nat.le_refl _) _⟩
  have hi2 : i < (wB s.data.toList).length := by rw [hl]; exact hi
  rw [Nat.zero_add]
  exact strb_cell (World.alloc_heap_new w (.cells ((wB s.data.toList).map Value.string).toArray 9)) hi2

set_option maxHeartbeats 4000000 in
set_option maxRecDepth 100000 in
theorem withChange_keep (a b c d e f g h i j k l : Int) (s : ByteArray) (w : World) :
    Calls Tryd.prog 32 #[.agg #[.int .i64 a, .int .i64 b, .int .i64 c, .int .i64 d, .int .i64 e, .int .i64 f, .int .i64 g, .int .i64 h, .int .i64 i, .string s, .int .i64 j, .int .i64 k, .int .i64 l], .iface 99 (.agg #[])] w fun en w' => en = .returned (.agg #[.int .i64 a, .int .i64 b, .int .i64 c, .int .i64 d, .int .i64 e, .int .i64 2, .int .i64 g, .int .i64 h, .int .i64 i, .string s, .int .i64 j, .int .i64 k, .int .i64 l]) ∧ Below w.heap.size w w' := by
  have t0 : ∀ (x : Value) (w : World), (Instr.typeAssert (.iface 99 x) 60 99 true).run Tryd.prog w = .ok (.tuple #[x, .bool true]) w := fun _ _ => by kernel_rfl
  have t1 := ta_keep_span
  go_enter Tryd.func32, Tryd.ntmps32
  go_wp2_with fail
  refine bodyPost_ret (v := .agg #[.int .i64 a, .int .i64 b, .int .i64 c, .int .i64 d, .int .i64 e, .int .i64 2, .int .i64 g, .int .i64 h, .int .i64 i, .string s, .int .i64 j, .int .i64 k, .int .i64 l]) (by simp [results, Tryd.results32, go_sem]) rfl ⟨rfl, ?_⟩
  repeat (first | (with_reducible exact Below.refl _ _) | ((with_reducible refine Below.setCell ?_ ?_ _); rotate_left; (focus (first | omega | (simp; done) | (simp; omega)))) | ((with_reducible refine Below.alloc ?_ ?_ _); rotate_left; (focus (first | omega | (simp; done) | (simp; omega)))) | (with_reducible refine Below.drew ?_))

set_option maxHeartbeats 4000000 in
set_option maxRecDepth 100000 in
theorem withChange_life (a b c d e f g h i j k l : Int) (s : ByteArray) (lv : Int) (w : World) :
    Calls Tryd.prog 32 #[.agg #[.int .i64 a, .int .i64 b, .int .i64 c, .int .i64 d, .int .i64 e, .int .i64 f, .int .i64 g, .int .i64 h, .int .i64 i, .string s, .int .i64 j, .int .i64 k, .int .i64 l], .iface 101 (.agg #[.int .i64 lv])] w fun en w' => en = .returned (.agg #[.int .i64 a, .int .i64 b, .int .i64 c, .int .i64 d, .int .i64 e, .int .i64 3, .int .i64 g, .int .i64 h, .int .i64 i, .string s, .int .i64 j, .int .i64 k, .int .i64 lv]) ∧ Below w.heap.size w w' := by
  have t0 : ∀ (x : Value) (w : World), (Instr.typeAssert (.iface 101 x) 60 99 true).run Tryd.prog w = .ok (.tuple #[.agg #[], .bool false]) w := fun _ _ => by kernel_rfl
  have t1 := ta_life_span
  have t2 := ta_life
  go_enter Tryd.func32, Tryd.ntmps32
  go_wp2_with fail
  go_region
  all_goals go_wp2_with fail
  all_goals refine bodyPost_ret (v := .agg #[.int .i64 a, .int .i64 b, .int .i64 c, .int .i64 d, .int .i64 e, .int .i64 3, .int .i64 g, .int .i64 h, .int .i64 i, .string s, .int .i64 j, .int .i64 k, .int .i64 lv]) (by simp [results, Tryd.results32, go_sem]) rfl ⟨rfl, ?_⟩
  all_goals (repeat (first | (with_reducible exact Below.refl _ _) | ((with_reducible refine Below.setCell ?_ ?_ _); rotate_left; (focus (first | omega | (simp; done) | (simp; omega)))) | ((with_reducible refine Below.alloc ?_ ?_ _); rotate_left; (focus (first | omega | (simp; done) | (simp; omega)))) | (with_reducible refine Below.drew ?_)))

set_option maxHeartbeats 4000000 in
set_option maxRecDepth 100000 in
theorem withChange_span (a b c d e f g h i j k l : Int) (s : ByteArray) (x1 x2 x4 x5 : Int) (x3 : ByteArray) (w : World) :
    Calls Tryd.prog 32 #[.agg #[.int .i64 a, .int .i64 b, .int .i64 c, .int .i64 d, .int .i64 e, .int .i64 f, .int .i64 g, .int .i64 h, .int .i64 i, .string s, .int .i64 j, .int .i64 k, .int .i64 l], .iface 97 (.agg #[.int .i64 x1, .int .i64 x2, .string x3, .int .i64 x4, .int .i64 x5])] w fun en w' => en = .returned (.agg #[.int .i64 a, .int .i64 b, .int .i64 c, .int .i64 d, .int .i64 e, .int .i64 1, .int .i64 g, .int .i64 x1, .int .i64 x2, .string x3, .int .i64 x4, .int .i64 x5, .int .i64 l]) ∧ Below w.heap.size w w' := by
  have t0 := ta_span
  go_enter Tryd.func32, Tryd.ntmps32
  go_wp2_with fail
  go_region
  all_goals go_wp2_with fail
  all_goals refine bodyPost_ret (v := .agg #[.int .i64 a, .int .i64 b, .int .i64 c, .int .i64 d, .int .i64 e, .int .i64 1, .int .i64 g, .int .i64 x1, .int .i64 x2, .string x3, .int .i64 x4, .int .i64 x5, .int .i64 l]) (by simp [results, Tryd.results32, go_sem]) rfl ⟨rfl, ?_⟩
  all_goals (repeat (first | (with_reducible exact Below.refl _ _) | ((with_reducible refine Below.setCell ?_ ?_ _); rotate_left; (focus (first | omega | (simp; done) | (simp; omega)))) | ((with_reducible refine Below.alloc ?_ ?_ _); rotate_left; (focus (first | omega | (simp; done) | (simp; omega)))) | (with_reducible refine Below.drew ?_)))
end Go.Proofs.YtjgcjopijblpkaaDoor
