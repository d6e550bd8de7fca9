/-
  Texts of one proof, joined: Math25, Ti1.
-/
import Derived.Test.YtdpeopmbboogaaaZForest30
import Derived.Test.YtdpeopmbboogaaaZForest34
import Derived.Test.YtdpeopmbboogaaaZForest20
import Derived.Test.YtdpeopmbboogaaaZForest05
namespace M1
/-- How late the first k nodes end, and the path to the first that ends so. -/
def lng (O : List (Upd × Int)) : Nat → Int × List Int
  | 0 => (-1, [])
  | k + 1 => match O[k]? with
    | none => lng O k
    | some q => if (lng O k).1 < q.1.en then (q.1.en, pth O (k + 1)) else lng O k
def lngs (us : List Upd) (tr : Int) : List Int := (lng (fors us tr) (fors us tr).length).2
theorem pth_le (O : List (Upd × Int)) : ∀ k, (pth O k).length ≤ k
  | 0 => by simp [pth]
  | k + 1 => by
    have := pth_le O k
    unfold pth
    split
    · omega
    · simp; omega
theorem lng_le (O : List (Upd × Int)) : ∀ k, (lng O k).2.length ≤ k
  | 0 => by simp [lng]
  | k + 1 => by
    have h1 := lng_le O k
    have h2 := pth_le O (k + 1)
    unfold lng
    split
    · omega
    · split
      · exact h2
      · omega
theorem lngs_len (us : List Upd) (tr : Int) : (lngs us tr).length ≤ us.length := Nat.le_trans (lng_le _ _) (fors_len us tr)
theorem lng_step {O : List (Upd × Int)} {k : Nat} {q : Upd × Int} (h : O[k]? = some q) : lng O (k + 1) = if (lng O k).1 < q.1.en then (q.1.en, pth O (k + 1)) else lng O k := by
  show (match O[k]? with | none => _ | some q => _) = _
  rw [h]
theorem pth_step {O : List (Upd × Int)} {k : Nat} {q : Upd × Int} (h : O[k]? = some q) : pth O (k + 1) = (pth O k).take q.2.toNat ++ [q.1.id] := by
  show (match O[k]? with | none => _ | some q => _) = _
  rw [h]
theorem bck_step {O : List (Upd × Int)} {k : Nat} {q : Upd × Int} {D : Int} (h : O[k]? = some q) : bck O (k + 1) D = if q.2 = D then bck O k (D - 1) ++ [q.1.id] else bck O k D := by
  show (match O[k]? with | none => _ | some q => _) = _
  rw [h]
/-- The path so far is as long as the next one is deep, or longer. -/
theorem pth_room {O : List (Upd × Int)} (h : Ord O) {k : Nat} {q : Upd × Int} (hq : O[k]? = some q) : q.2.toNat ≤ (pth O k).length := by
  cases k with
  | zero => rw [h.first hq]; simp
  | succ k =>
    have hk : k < O.length := by
      have := (List.getElem?_eq_some_iff.1 hq).1
      omega
    have hp : O[k]? = some O[k] := List.getElem?_eq_getElem hk
    have h1 := h.next hq hp
    have h2 := pth_len h hp
    have h3 := (h k _ hp).1
    omega
/-- The model's best place, held against it. -/
def Bst (O : List (Upd × Int)) (k : Nat) (b : Int) : Prop := (k = 0 ∧ b = -1) ∨ ∃ (i : Nat) (q : Upd × Int), i < k ∧ b = i ∧ O[i]? = some q ∧ (lng O k).1 = q.1.en ∧ (lng O k).2 = pth O (i + 1)
theorem Bst.step {O : List (Upd × Int)} {k : Nat} {b : Int} {q : Upd × Int} (h : Bst O k b) (hq : O[k]? = some q) (h0 : 0 ≤ q.1.en) (hb : b < 0 ∨ ∃ (i : Nat) (p : Upd × Int), b = i ∧ O[i]? = some p ∧ p.1.en < q.1.en) : Bst O (k + 1) k := by
  refine Or.inr ⟨k, q, by omega, rfl, hq, ?_⟩
  rw [lng_step hq]
  have : (lng O k).1 < q.1.en := by
    rcases h with ⟨rfl, _⟩ | ⟨i, p, hi, e, hp, h1, _⟩
    · show (-1 : Int) < _; omega
    · rcases hb with hb | ⟨i2, p2, e2, hp2, hl⟩
      · omega
      · have : i2 = i := by omega
        subst this
        rw [hp] at hp2
        injection hp2 with e3
        rw [h1, e3]; exact hl
  rw [if_pos this]
  exact ⟨rfl, rfl⟩
theorem Bst.stay {O : List (Upd × Int)} {k i : Nat} {q p : Upd × Int} (h : Bst O k i) (hq : O[k]? = some q) (hp : O[i]? = some p) (hb : ¬ p.1.en < q.1.en) : Bst O (k + 1) i := by
  rcases h with ⟨_, e⟩ | ⟨i2, p2, hi, e, hp2, h1, h2⟩
  · omega
  · have : i2 = i := by omega
    subst this
    rw [hp] at hp2
    injection hp2 with e3
    refine Or.inr ⟨i2, p, by omega, rfl, hp, ?_⟩
    rw [lng_step hq, if_neg (by rw [h1, ← e3]; exact hb)]
    exact ⟨by rw [h1, e3], h2⟩
/-- What the model gathers from the best place is the path. -/
theorem bck_best {O : List (Upd × Int)} (h : Ord O) {i : Nat} {q : Upd × Int} (hq : O[i]? = some q) : bck O (i + 1) q.2 = pth O (i + 1) := by
  have h0 := (h i q hq).1
  have h1 := bck_pth h (D := q.2.toNat) hq (Nat.le_refl _)
  rw [show ((q.2.toNat : Nat) : Int) = q.2 by omega] at h1
  rw [h1, List.take_of_length_le]
  rw [pth_len h hq]
  exact Nat.le_refl _
theorem okU_en {u : Upd} (h : okU u = true) : 0 ≤ u.en := by
  unfold okU updB kindB at h
  simp only [Bool.and_eq_true] at h
  have h2 := h.2
  split at h2
  · unfold spanB inB at h2
    simp only [Bool.and_eq_true, decide_eq_true_eq] at h2
    omega
  · split at h2
    · unfold zeroB at h2
      simp only [Bool.and_eq_true, decide_eq_true_eq] at h2
      omega
    · split at h2
      · unfold zeroB at h2
        simp only [Bool.and_eq_true, decide_eq_true_eq] at h2
        omega
      · cases h2
theorem sps_en {us : List Upd} {tr : Int} {u : Upd} (h : u ∈ sps us tr) : 0 ≤ u.en := by
  unfold sps at h
  split at h
  · rename_i hs
    obtain ⟨j, hj, rfl⟩ := spTo_mem h
    exact okU_en (okAt_ok (setOk_all hs j hj))
  · cases h
theorem fors_en {us : List Upd} {tr : Int} {k : Nat} {q : Upd × Int} (h : (fors us tr)[k]? = some q) : 0 ≤ q.1.en :=
  sps_en (for_mem (sps_sorted us tr) (List.mem_of_getElem? h))
end M1

namespace Go.Proofs.Ytdpeopmbboogaaa
open Go.ChangeShapes Go.WideShapes Go.ChangeAt Go.RowKit
set_option linter.unusedSimpArgs false
set_option linter.unusedVariables false

def icell (zs : List Int) (o : Nat) : Value := .int .i64 (zs.getD o 0)
def MI (w : World) (av : Option Addr) (n cap lo hi : Nat) (f : Nat → Value) : Prop :=
  n ≤ cap ∧ cap ≤ maxLen ∧ ((n = 0 ∧ av = none) ∨ ∃ g, av = some ⟨g, 0, none⟩ ∧ lo ≤ g ∧ g < hi ∧ RowAt w g n f)
theorem MI.below {w w' : World} {av : Option Addr} {n cap lo hi : Nat} {f : Nat → Value} (h : MI w av n cap lo hi f) (hb : Below w.heap.size w w') : MI w' av n cap lo hi f :=
  ⟨h.1, h.2.1, h.2.2.imp id fun ⟨g, e, h1, h2, r⟩ => ⟨g, e, h1, h2, r.below hb⟩⟩
theorem MI.off {w w' : World} {av : Option Addr} {n cap lo hi g : Nat} {f : Nat → Value} (h : MI w av n cap lo hi f) (hg : Gr g w w') (hb : g < lo ∨ hi ≤ g) : MI w' av n cap lo hi f :=
  ⟨h.1, h.2.1, h.2.2.imp id fun ⟨k, e, h1, h2, r⟩ => ⟨k, e, h1, h2, r.gr hg (by omega)⟩⟩
theorem MI.mk {w w' : World} {av bv : Option Addr} {n cap lo hi m cm lo2 hi2 : Nat} {f f2 : Nat → Value} (h : MI w av n cap lo hi f) (h2 : MI w bv m cm lo2 hi2 f2) (hm : Mk bv w w') (hd : hi ≤ lo2 ∨ hi2 ≤ lo) : MI w' av n cap lo hi f := by
  refine ⟨h.1, h.2.1, ?_⟩
  rcases h.2.2 with h0 | ⟨g, e, h3, h4, r⟩
  · exact Or.inl h0
  · refine Or.inr ⟨g, e, h3, h4, ?_⟩
    rcases h2.2.2 with ⟨_, h0⟩ | ⟨g2, e2, h5, h6, _⟩
    · exact r.below (hm.1 h0)
    · exact r.gr (hm.2 g2 e2) (by omega)
theorem MI.mkBelow {w w' : World} {bv : Option Addr} {m cm lo2 hi2 B : Nat} {f2 : Nat → Value} (h2 : MI w bv m cm lo2 hi2 f2) (hm : Mk bv w w') (hB : B ≤ w.heap.size) (hlo : B ≤ lo2) : Below B w w' := by
  rcases h2.2.2 with ⟨_, h0⟩ | ⟨g2, e2, h5, h6, _⟩
  · exact (hm.1 h0).mono hB
  · exact gr_to (hm.2 g2 e2) hB (by omega)
theorem MI.wide {w : World} {av : Option Addr} {n cap lo hi lo2 hi2 : Nat} {f : Nat → Value} (h : MI w av n cap lo hi f) (hl : lo2 ≤ lo) (hh : hi ≤ hi2) : MI w av n cap lo2 hi2 f :=
  ⟨h.1, h.2.1, h.2.2.imp id fun ⟨g, e, h1, h2, r⟩ => ⟨g, e, by omega, by omega, r⟩⟩

set_option maxHeartbeats 2000000 in
theorem eqI_same (av bv : Option Addr) (n c d lo hi lo2 hi2 : Nat) (zs : List Int) (w : World) (h1 : MI w av n c lo hi (icell zs)) (h2 : MI w bv n d lo2 hi2 (icell zs)) :
    Calls Try.prog 25 #[.slice av n c, .slice bv n d] w fun e w' => e = .returned (.bool true) ∧ Below w.heap.size w w' := by
  have hm1 := h1.1
  have hm2 := h1.2.1
  have hm3 := h2.1
  have hm4 := h2.2.1
  unfold maxLen at hm2 hm4
  have hnb : ((n : Int) != (n : Int)) = false := by simp
  go_enter Try.func25, Try.ntmps25
  go_wp2_with fail
  go_loopw [5] (fun i wr => ∃ p : Nat, p ≤ n ∧ i = .int .i64 p ∧ Below w.heap.size w wr) (fun i _ => n - (intOf i).toNat)
  case atStart => exact ⟨0, Nat.zero_le _, rfl, Below.refl _ _⟩
  case round =>
    obtain ⟨p, hp, rfl, hB⟩ := hrel
    by_cases hlt : p < n
    · have g1 := h1.below hB
      have g2 := h2.below hB
      rcases g1.2.2 with ⟨h0, _⟩ | ⟨g, rfl, _, _, r1⟩
      · omega
      rcases g2.2.2 with ⟨h0, _⟩ | ⟨gg, rfl, _, _, r2⟩
      · omega
      have hgl := r1.lt
      have hgl2 := r2.lt
      have i0 : (0 : Int) ≤ (p : Int) := by omega
      have i1 : (p : Int) < (n : Int) := by omega
      have d0 := r1.cell (o := p) hlt
      have c0 := r2.cell (o := p) hlt
      unfold icell at d0 c0
      clear g1 g2
      go_wp2_with fail
      go_region_held3 (fun w' => Kp wr w') (first | exact kp_zero _ | exact kp_drew (by assumption) | exact kp_step (by assumption) (by assumption)) (fail)
      rename_i hK
      have hB' := hB.trans (hK.1.mono hB.size)
      go_wp2_with fail
      exact ⟨⟨p + 1, by omega, by go_num, hB'⟩, by simp [intOf]; omega⟩
    · go_wp2_with fail
      go_ret
      exact ⟨rfl, hB⟩

set_option maxHeartbeats 2000000 in
theorem markI_any (av : Option Addr) (n cap lo hi : Nat) (f : Nat → Value) (k : Int) (w : World) (h : MI w av n cap lo hi f) (hn : n ≤ 1048576) (hk : 0 ≤ k) (hk2 : k ≤ 100000000) :
    Calls Try.prog 26 #[.slice av n cap, .int .i64 k] w fun e w' => e = .returned (.int .i64 (k + n)) ∧ MI w' av n cap lo hi (fun o => .int .i64 (k + o)) ∧ Mk av w w' := by
  obtain ⟨h1, h2, h3⟩ := h
  have hm := h2
  unfold maxLen at hm
  rcases h3 with ⟨rfl, rfl⟩ | ⟨g, rfl, hlo, hhi, hr⟩
  · go_enter Try.func26, Try.ntmps26
    go_wp2_with fail
    go_loopw [1, 5] (fun q i wr => q = .int .i64 k ∧ i = .int .i64 0 ∧ Below w.heap.size w wr) (fun _ i _ => 0)
    case atStart => exact ⟨rfl, rfl, Below.refl _ _⟩
    case round =>
      obtain ⟨rfl, rfl, hB⟩ := hrel
      go_wp2_with fail
      go_ret
      exact ⟨by simp, ⟨h1, h2, Or.inl ⟨rfl, rfl⟩⟩, mk_none hB⟩
  · go_enter Try.func26, Try.ntmps26
    go_wp2_with fail
    go_loopw [1, 5] (fun q i wr => ∃ (j : Nat) (x : Int), j ≤ n ∧ i = .int .i64 j ∧ Hid (x = k + j) ∧ 0 ≤ x ∧ x ≤ 200000000 ∧ q = .int .i64 x ∧ Gr g w wr ∧ ∃ fr, RowAt wr g n fr ∧ Hid (∀ o, o < j → fr o = .int .i64 (k + o))) (fun _ i _ => n - (intOf i).toNat)
    case atStart => exact ⟨0, k, Nat.zero_le _, rfl, (by simp : k = k + ((0 : Nat) : Int)), hk, by omega, rfl, gr_refl _ _, f, hr, fun o ho => absurd ho (by omega)⟩
    case round =>
      clear hr
      obtain ⟨j, x, hj, rfl, hx, hx0, hx1, rfl, hG, fr, hr, hall⟩ := hrel
      have hgl := hr.lt
      by_cases hlt : j < n
      · have i0 : (0 : Int) ≤ (j : Int) := by omega
        have i1 : (j : Int) < (n : Int) := by omega
        have d1 := hr.cell (o := j) hlt
        have d3 := hr.free (o := j) hlt
        go_wp2_with fail
        refine ⟨⟨j + 1, x + 1, by omega, by go_num, (by have q := hx.out; omega : x + 1 = k + ((j + 1 : Nat) : Int)), by omega, (by have q := hx.out; omega), rfl, gr_set hG _ _, _, hr.set hlt _, fun o ho => ?_⟩, by simp [intOf]; omega⟩
        show (if o = j then _ else _) = _
        by_cases e1 : o = j
        · rw [if_pos e1, e1, hx.out]
        · rw [if_neg e1]; exact hall.out o (by omega)
      · have hjn : j = n := by omega
        have HX : Hid (x = k + (n : Int)) := (by rw [← hjn]; exact hx.out : x = k + (n : Int))
        have hr' := hr.same fun o ho => hall.out o (by omega)
        clear hjn
        go_wp2_with fail
        go_ret
        exact ⟨by rw [HX.out]; rfl, ⟨h1, h2, Or.inr ⟨g, rfl, hlo, hhi, hr'⟩⟩, mk_some hG⟩

set_option maxHeartbeats 2000000 in
theorem heldI_any (av : Option Addr) (n cap lo hi : Nat) (k : Int) (w : World) (h : MI w av n cap lo hi (fun o => .int .i64 (k + o))) (hn : n ≤ 1048576) (hk : 0 ≤ k) (hk2 : k ≤ 100000000) :
    Calls Try.prog 27 #[.slice av n cap, .int .i64 k] w fun e w' => e = .returned (.int .i64 (k + n)) ∧ Below w.heap.size w w' := by
  obtain ⟨h1, h2, h3⟩ := h
  have hm := h2
  unfold maxLen at hm
  rcases h3 with ⟨rfl, rfl⟩ | ⟨g, rfl, hlo, hhi, hr⟩
  · go_enter Try.func27, Try.ntmps27
    go_wp2_with fail
    go_loopw [1, 5] (fun q i wr => q = .int .i64 k ∧ i = .int .i64 0 ∧ Below w.heap.size w wr) (fun _ i _ => 0)
    case atStart => exact ⟨rfl, rfl, Below.refl _ _⟩
    case round =>
      obtain ⟨rfl, rfl, hB⟩ := hrel
      go_wp2_with fail
      go_ret
      exact ⟨by simp, hB⟩
  · go_enter Try.func27, Try.ntmps27
    go_wp2_with fail
    go_loopw [1, 5] (fun q i wr => ∃ (j : Nat) (x : Int), j ≤ n ∧ i = .int .i64 j ∧ Hid (x = k + j) ∧ 0 ≤ x ∧ x ≤ 200000000 ∧ q = .int .i64 x ∧ Below w.heap.size w wr) (fun _ i _ => n - (intOf i).toNat)
    case atStart => exact ⟨0, k, Nat.zero_le _, rfl, (by simp : k = k + ((0 : Nat) : Int)), hk, by omega, rfl, Below.refl _ _⟩
    case round =>
      obtain ⟨j, x, hj, rfl, hx, hx0, hx1, rfl, hB⟩ := hrel
      have r := hr.below hB
      have hgl := r.lt
      by_cases hlt : j < n
      · have i0 : (0 : Int) ≤ (j : Int) := by omega
        have i1 : (j : Int) < (n : Int) := by omega
        have d1 := r.cell (o := j) hlt
        rw [← hx.out] at d1
        clear r
        go_wp2_with fail
        exact ⟨⟨j + 1, x + 1, by omega, by go_num, (by have q := hx.out; omega : x + 1 = k + ((j + 1 : Nat) : Int)), by omega, (by have q := hx.out; omega), rfl, hB⟩, by simp [intOf]; omega⟩
      · have hjn : j = n := by omega
        have HX : Hid (x = k + (n : Int)) := (by rw [← hjn]; exact hx.out : x = k + (n : Int))
        clear hjn
        go_wp2_with fail
        go_ret
        exact ⟨by rw [HX.out]; rfl, hB⟩
end Go.Proofs.Ytdpeopmbboogaaa
