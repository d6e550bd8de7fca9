/-
  Texts of one proof, joined: Set1, ToStamp, Span1, Span2.
-/
import Derived.Test.YtdpeopmbboogaaaZLongest03
import Derived.Test.YtdpeopmbboogaaaZLongest01
import Derived.Test.YtdpeopmbboogaaaZLongest02
namespace Go.Proofs.Ytdpeopmbboogaaa
open Go.ChangeShapes Go.WideShapes Go.ChangeAt Go.RowKit
set_option linter.unusedSimpArgs false

/-- From place o of block b on lie the thirteen cells of u. -/
def UCells (w : World) (b o : Nat) (u : M1.Upd) : Prop := w.cell? ⟨b, o, none⟩ = some (.int .i64 u.dr) ∧ w.cell? ⟨b, o + 1, none⟩ = some (.int .i64 u.dn) ∧ w.cell? ⟨b, o + 2, none⟩ = some (.int .i64 u.sw) ∧ w.cell? ⟨b, o + 3, none⟩ = some (.int .i64 u.sc) ∧ w.cell? ⟨b, o + 4, none⟩ = some (.int .i64 u.sr) ∧ w.cell? ⟨b, o + 5, none⟩ = some (.int .i64 u.k) ∧ w.cell? ⟨b, o + 6, none⟩ = some (.int .i64 u.tr) ∧ w.cell? ⟨b, o + 7, none⟩ = some (.int .i64 u.id) ∧ w.cell? ⟨b, o + 8, none⟩ = some (.int .i64 u.pa) ∧ w.cell? ⟨b, o + 9, none⟩ = some (.string u.s) ∧ w.cell? ⟨b, o + 10, none⟩ = some (.int .i64 u.st) ∧ w.cell? ⟨b, o + 11, none⟩ = some (.int .i64 u.en) ∧ w.cell? ⟨b, o + 12, none⟩ = some (.int .i64 u.lv)

theorem UCells.below {w w' : World} {b o : Nat} {u : M1.Upd} (h : UCells w b o u) (hb : Below w.heap.size w w') (hl : b < w.heap.size) : UCells w' b o u := by
  obtain ⟨c0, c1, c2, c3, c4, c5, c6, c7, c8, c9, c10, c11, c12⟩ := h
  exact ⟨(hb.cell (p := ⟨b, o, none⟩) hl).trans c0, (hb.cell (p := ⟨b, o + 1, none⟩) hl).trans c1, (hb.cell (p := ⟨b, o + 2, none⟩) hl).trans c2, (hb.cell (p := ⟨b, o + 3, none⟩) hl).trans c3, (hb.cell (p := ⟨b, o + 4, none⟩) hl).trans c4, (hb.cell (p := ⟨b, o + 5, none⟩) hl).trans c5, (hb.cell (p := ⟨b, o + 6, none⟩) hl).trans c6, (hb.cell (p := ⟨b, o + 7, none⟩) hl).trans c7, (hb.cell (p := ⟨b, o + 8, none⟩) hl).trans c8, (hb.cell (p := ⟨b, o + 9, none⟩) hl).trans c9, (hb.cell (p := ⟨b, o + 10, none⟩) hl).trans c10, (hb.cell (p := ⟨b, o + 11, none⟩) hl).trans c11, (hb.cell (p := ⟨b, o + 12, none⟩) hl).trans c12⟩

/-- A slice of updates: its elements are us, thirteen cells each. -/
structure IsUpds (w : World) (av : Option Addr) (len cap : Nat) (us : List M1.Upd) : Prop where
  hlen : us.length = len
  hcap : len ≤ cap
  hmost : cap ≤ maxLen
  htxt : ∀ i, i < len → (M1.up us i).s.size ≤ maxLen
  hlies : len = 0 ∨ ∃ b off, av = some ⟨b, off, none⟩ ∧ b < w.heap.size ∧ ∀ i, i < len → UCells w b (off + i * 13) (M1.up us i)

theorem IsUpds.below {w w' : World} {av : Option Addr} {len cap : Nat} {us : List M1.Upd} (h : IsUpds w av len cap us) (hb : Below w.heap.size w w') : IsUpds w' av len cap us :=
  ⟨h.hlen, h.hcap, h.hmost, h.htxt, h.hlies.imp id fun ⟨b, off, e, hlt, hc⟩ => ⟨b, off, e, Nat.lt_of_lt_of_le hlt hb.size, fun i hi => (hc i hi).below hb hlt⟩⟩

/-- The cells of an update; of a row of updates. -/
def ucs (u : M1.Upd) : List Value := [.int .i64 u.dr, .int .i64 u.dn, .int .i64 u.sw, .int .i64 u.sc, .int .i64 u.sr, .int .i64 u.k, .int .i64 u.tr, .int .i64 u.id, .int .i64 u.pa, .string u.s, .int .i64 u.st, .int .i64 u.en, .int .i64 u.lv]
def ucell (us : List M1.Upd) (o : Nat) : Value := (ucs (M1.up us (o / 13))).getD (o % 13) undef
theorem ucell_at (us : List M1.Upd) (k j : Nat) (h : j < 13) : ucell us (k * 13 + j) = (ucs (M1.up us k)).getD j undef := by
  unfold ucell
  rw [show (k * 13 + j) / 13 = k from by omega, show (k * 13 + j) % 13 = j from by omega]

theorem isUpds_of_row {w : World} {g n cap : Nat} {us : List M1.Upd} (hl : us.length = n) (hc : n ≤ cap) (hm : cap ≤ maxLen) (ht : ∀ i, i < n → (M1.up us i).s.size ≤ maxLen) (h : RowAt w g (n * 13) (ucell us)) : IsUpds w (some ⟨g, 0, none⟩) n cap us := by
  refine ⟨hl, hc, hm, ht, Or.inr ⟨g, 0, rfl, h.lt, fun i hi => ?_⟩⟩
  have key : ∀ j, j < 13 → w.cell? ⟨g, i * 13 + j, none⟩ = some ((ucs (M1.up us i)).getD j undef) := fun j hj => by
    rw [h.cell (by omega), ucell_at us i j hj]
  unfold UCells
  rw [Nat.zero_add]
  exact ⟨key 0 (by omega), key 1 (by omega), key 2 (by omega), key 3 (by omega), key 4 (by omega), key 5 (by omega), key 6 (by omega), key 7 (by omega), key 8 (by omega), key 9 (by omega), key 10 (by omega), key 11 (by omega), key 12 (by omega)⟩
end Go.Proofs.Ytdpeopmbboogaaa

namespace Go.Proofs.Ytdpeopmbboogaaa
open Go.ChangeShapes Go.WideShapes Go.ChangeAt Go.RowKit

theorem toStamp_any (a b c : Int) (w : World) :
    Calls Try.prog 74 #[.agg #[.int .i64 a, .int .i64 b, .int .i64 c]] w fun e w' => e = .returned (.agg #[.int .i64 a, .int .i64 b, .int .i64 c]) ∧ Below w.heap.size w w' := by
  go_enter Try.func74, Try.ntmps74
  go_wp2
  refine bodyPost_ret (v := .agg #[.int .i64 a, .int .i64 b, .int .i64 c]) (by simp [results, Try.results74, go_sem]) rfl ⟨rfl, ?_⟩
  repeat (first | (with_reducible exact Below.refl _ _) | ((with_reducible refine Below.setCell ?_ ?_ _); rotate_left; (focus (first | omega | (simp; done) | (simp; omega)))) | ((with_reducible refine Below.alloc ?_ ?_ _); rotate_left; (focus (first | omega | (simp; done) | (simp; omega)))) | (with_reducible refine Below.drew ?_))

theorem eqStamp_same (a b c : Int) (w : World) :
    Calls Try.prog 78 #[.agg #[.int .i64 a, .int .i64 b, .int .i64 c], .agg #[.int .i64 a, .int .i64 b, .int .i64 c]] w fun e w' => e = .returned (.bool true) ∧ Below w.heap.size w w' := by
  go_enter Try.func78, Try.ntmps78
  go_wp2
  go_ret
  refine ⟨rfl, ?_⟩
  repeat (first | (with_reducible exact Below.refl _ _) | ((with_reducible refine Below.setCell ?_ ?_ _); rotate_left; (focus (first | omega | (simp; done) | (simp; omega)))) | ((with_reducible refine Below.alloc ?_ ?_ _); rotate_left; (focus (first | omega | (simp; done) | (simp; omega)))) | (with_reducible refine Below.drew ?_))

end Go.Proofs.Ytdpeopmbboogaaa

namespace Go.Proofs.Ytdpeopmbboogaaa
open Go.ChangeShapes Go.WideShapes Go.ChangeAt Go.RowKit

set_option maxHeartbeats 1000000 in
theorem l2Name_any (s : ByteArray) (w : World) (hs : s.size ≤ maxLen) :
    Calls Try.prog 87 #[.string s] w fun e w' => e = .returned (.bool (M1.nameB s)) ∧ w' = w := by
  unfold maxLen at hs
  go_enter Try.func87, Try.ntmps87
  go_wp2
  go_loop [3] (fun i => ∃ k : Nat, k ≤ s.size ∧ i = .int .i64 k ∧ Hid (∀ j (hj : j < s.size), j < k → M1.letB s[j] = true)) (fun i => s.size - (intOf i).toNat)
  case atStart => exact ⟨0, Nat.zero_le _, rfl, fun j _ hj => absurd hj (Nat.not_lt_zero _)⟩
  case round =>
    obtain ⟨k, hk, rfl, hall⟩ := hrel
    by_cases hlt : k < s.size
    · by_cases h1 : 97 ≤ (s[k].toNat : Int)
      · by_cases h2 : (s[k].toNat : Int) ≤ 122
        · have HQ : Hid (∀ j (hj : j < s.size), j < k + 1 → M1.letB s[j] = true) := fun j hj hjk => by
            by_cases e : j = k
            · subst e; simp [M1.letB, h1, h2]
            · exact hall.out j hj (by omega)
          clear hall
          go_wp2
          go_round
          case rel => exact ⟨k + 1, by omega, by go_num, HQ⟩
          case measure => simp [intOf]; omega
        · have HQ : Hid (M1.nameB s = false) := (by unfold M1.nameB; rw [M1.allB_no hlt (by unfold M1.letB; rw [decide_eq_false h2]; simp)]; simp : M1.nameB s = false)
          clear hall
          go_wp2
          go_ret
          exact ⟨by rw [HQ.out]; rfl, rfl⟩
      · have HQ : Hid (M1.nameB s = false) := (by unfold M1.nameB; rw [M1.allB_no hlt (by unfold M1.letB; rw [decide_eq_false h1]; simp)]; simp : M1.nameB s = false)
        clear hall
        go_wp2
        go_ret
        exact ⟨by rw [HQ.out]; rfl, rfl⟩
    · have HQ : Hid (M1.nameB s = (decide (1 ≤ s.size) && decide (s.size ≤ 12))) := (by unfold M1.nameB; rw [M1.allB_yes fun j hj => hall.out j hj (by omega)]; simp : M1.nameB s = (decide (1 ≤ s.size) && decide (s.size ≤ 12)))
      clear hall
      by_cases h3 : 1 ≤ s.size
      · by_cases h4 : s.size ≤ 12
        · go_wp2
          go_ret
          exact ⟨by rw [HQ.out]; simp [h3, h4]; omega, rfl⟩
        · go_wp2
          go_ret
          exact ⟨by rw [HQ.out]; simp [h3, h4]; omega, rfl⟩
      · go_wp2
        go_ret
        exact ⟨by rw [HQ.out]; simp [h3], rfl⟩

set_option maxHeartbeats 1000000 in
theorem nameOk_any (s : ByteArray) (w : World) (hs : s.size ≤ maxLen) :
    Calls Try.prog 132 #[.string s] w fun e w' => e = .returned (.bool (M1.nameB s)) ∧ w' = w := by
  unfold maxLen at hs
  by_cases h3 : s.size = 0
  · have HQ : Hid (M1.nameB s = false) := (by unfold M1.nameB; simp [h3] : M1.nameB s = false)
    have h5 : ((s.size : Int) == 0) = true := by simp [h3]
    clear h3
    go_enter Try.func132, Try.ntmps132
    go_wp2
    go_ret
    exact ⟨by rw [HQ.out]; rfl, rfl⟩
  · have h5 : ((s.size : Int) == 0) = false := by simp [h3]
    by_cases h4 : 12 < s.size
    · have HQ : Hid (M1.nameB s = false) := (by unfold M1.nameB; simp; intro _ h; omega : M1.nameB s = false)
      go_enter Try.func132, Try.ntmps132
      go_wp2
      go_ret
      exact ⟨by rw [HQ.out]; rfl, rfl⟩
    · go_enter Try.func132, Try.ntmps132
      go_wp2
      go_loop [3] (fun i => ∃ k : Nat, k ≤ s.size ∧ i = .int .i64 k ∧ Hid (∀ j (hj : j < s.size), j < k → M1.letB s[j] = true)) (fun i => s.size - (intOf i).toNat)
      case atStart => exact ⟨0, Nat.zero_le _, rfl, fun j _ hj => absurd hj (Nat.not_lt_zero _)⟩
      case round =>
        obtain ⟨k, hk, rfl, hall⟩ := hrel
        by_cases hlt : k < s.size
        · by_cases h1 : 97 ≤ (s[k].toNat : Int)
          · by_cases h2 : (s[k].toNat : Int) ≤ 122
            · have HQ : Hid (∀ j (hj : j < s.size), j < k + 1 → M1.letB s[j] = true) := fun j hj hjk => by
                by_cases e : j = k
                · subst e; simp [M1.letB, h1, h2]
                · exact hall.out j hj (by omega)
              clear hall
              go_wp2
              go_round
              case rel => exact ⟨k + 1, by omega, by go_num, HQ⟩
              case measure => simp [intOf]; omega
            · have HQ : Hid (M1.nameB s = false) := (by unfold M1.nameB; rw [M1.allB_no hlt (by unfold M1.letB; rw [decide_eq_false h2]; simp)]; simp : M1.nameB s = false)
              clear hall
              go_wp2
              go_ret
              exact ⟨by rw [HQ.out]; rfl, rfl⟩
          · have HQ : Hid (M1.nameB s = false) := (by unfold M1.nameB; rw [M1.allB_no hlt (by unfold M1.letB; rw [decide_eq_false h1]; simp)]; simp : M1.nameB s = false)
            clear hall
            go_wp2
            go_ret
            exact ⟨by rw [HQ.out]; rfl, rfl⟩
        · have HQ : Hid (M1.nameB s = true) := (by unfold M1.nameB; rw [M1.allB_yes fun j hj => hall.out j hj (by omega)]; simp; omega : M1.nameB s = true)
          clear hall
          go_wp2
          go_ret
          exact ⟨by rw [HQ.out]; rfl, rfl⟩

end Go.Proofs.Ytdpeopmbboogaaa

namespace Go.Proofs.Ytdpeopmbboogaaa
open Go.ChangeShapes Go.WideShapes Go.ChangeAt Go.RowKit

set_option maxHeartbeats 1000000 in
theorem spanOk_spec (a b c d : Int) (s : ByteArray) (w : World) (hs : s.size ≤ maxLen) :
    Calls Try.prog 64 #[.agg #[.int .i64 a, .int .i64 b, .string s, .int .i64 c, .int .i64 d]] w fun e w' => e = .returned (.bool (M1.spanB a b s c d)) ∧ Below w.heap.size w w' := by
  unfold M1.spanB
  go_enter Try.func64, Try.ntmps64
  go_wp2_with (first | (go_at_call 63; refine (l1In_any _ _ _ _).mono ?_; rintro e w' ⟨rfl, rfl⟩) | (go_at_call 87; refine (l2Name_any _ _ hs).mono ?_; rintro e w' ⟨rfl, rfl⟩))
  all_goals (go_ret)
  all_goals (exact ⟨by simp_all, (Below.refl _ _).alloc (Nat.le_refl _) _⟩)

set_option maxHeartbeats 1000000 in
theorem spanOk_impl (a b c d : Int) (s : ByteArray) (w : World) (hs : s.size ≤ maxLen) :
    Calls Try.prog 131 #[.agg #[.int .i64 a, .int .i64 b, .string s, .int .i64 c, .int .i64 d]] w fun e w' => e = .returned (.bool (M1.spanB a b s c d)) ∧ Below w.heap.size w w' := by
  rw [M1.spanB_eq]
  go_enter Try.func131, Try.ntmps131
  go_wp2_with (first | (go_at_call 90; refine (inRange_any _ _ _ _).mono ?_; rintro e w' ⟨rfl, rfl⟩) | (go_at_call 105; refine (timeOk_any _ _).mono ?_; rintro e w' ⟨rfl, rfl⟩) | (go_at_call 132; refine (nameOk_any _ _ hs).mono ?_; rintro e w' ⟨rfl, rfl⟩))
  all_goals (go_ret)
  all_goals (exact ⟨by simp_all, (Below.refl _ _).alloc (Nat.le_refl _) _⟩)

theorem toSpan_any (a b c d : Int) (s : ByteArray) (w : World) :
    Calls Try.prog 75 #[.agg #[.int .i64 a, .int .i64 b, .string s, .int .i64 c, .int .i64 d]] w fun e w' => e = .returned (.agg #[.int .i64 a, .int .i64 b, .string s, .int .i64 c, .int .i64 d]) ∧ Below w.heap.size w w' := by
  go_enter Try.func75, Try.ntmps75
  go_wp2
  refine bodyPost_ret (v := .agg #[.int .i64 a, .int .i64 b, .string s, .int .i64 c, .int .i64 d]) (by simp [results, Try.results75, go_sem]) rfl ⟨rfl, ?_⟩
  repeat (first | (with_reducible exact Below.refl _ _) | ((with_reducible refine Below.setCell ?_ ?_ _); rotate_left; (focus (first | omega | (simp; done) | (simp; omega)))) | ((with_reducible refine Below.alloc ?_ ?_ _); rotate_left; (focus (first | omega | (simp; done) | (simp; omega)))) | (with_reducible refine Below.drew ?_))

theorem szSpan_yes (a b c d : Int) (s : ByteArray) (left : Int) (w : World) (h0 : 0 ≤ left) (h1 : left ≤ 1048576) (hs : s.size ≤ maxLen) (h : (s.size : Int) ≤ left) :
    Calls Try.prog 72 #[.agg #[.int .i64 a, .int .i64 b, .string s, .int .i64 c, .int .i64 d], .int .i64 left] w fun e w' => e = .returned (.int .i64 (left - s.size)) ∧ Below w.heap.size w w' := by
  unfold maxLen at hs
  go_enter Try.func72, Try.ntmps72
  go_wp2
  go_ret
  exact ⟨rfl, (Below.refl _ _).alloc (Nat.le_refl _) _⟩

theorem szSpan_no (a b c d : Int) (s : ByteArray) (left : Int) (w : World) (h0 : 0 ≤ left) (h1 : left ≤ 1048576) (hs : s.size ≤ maxLen) (h : left < (s.size : Int)) :
    Calls Try.prog 72 #[.agg #[.int .i64 a, .int .i64 b, .string s, .int .i64 c, .int .i64 d], .int .i64 left] w fun e w' => e = .returned (.int .i64 (-1)) ∧ Below w.heap.size w w' := by
  unfold maxLen at hs
  go_enter Try.func72, Try.ntmps72
  go_wp2
  go_ret
  exact ⟨rfl, (Below.refl _ _).alloc (Nat.le_refl _) _⟩

end Go.Proofs.Ytdpeopmbboogaaa
