/-
  Contracts of the model's l4At, l4Root, l4Ahead, l4Next.
-/
import Derived.Test.YtdpeopmbboogaaaZLongest25
import Derived.Test.YtdpeopmbboogaaaZLongest29
namespace Go.Proofs.Ytdpeopmbboogaaa
open Go.ChangeShapes Go.WideShapes Go.ChangeAt Go.RowKit
set_option linter.unusedSimpArgs false
set_option linter.unusedVariables false

/-- Spans in a row, where such a row is. -/
structure SpIn (w : World) (av : Option Addr) (m c B : Nat) (S : List M1.Upd) : Prop where
  len : S.length = m
  cap : m ≤ c
  most : c ≤ maxLen
  lies : m = 0 ∨ ∃ g, av = some ⟨g, 0, none⟩ ∧ g < B ∧ RowAt w g (m * 5) (scell S)
theorem RowAt.belowB {w w' : World} {g m B : Nat} {f : Nat → Value} (h : RowAt w g m f) (hb : Below B w w') (hg : g < B) : RowAt w' g m f :=
  ⟨Nat.lt_of_lt_of_le h.1 hb.size, fun o ho => ⟨(hb.cell (p := ⟨g, o, none⟩) hg).trans (h.2 o ho).1, (hb.frozen (p := ⟨g, o, none⟩) hg).trans (h.2 o ho).2⟩⟩
theorem SpIn.below {w w' : World} {av : Option Addr} {m c B : Nat} {S : List M1.Upd} (h : SpIn w av m c B S) (hb : Below B w w') : SpIn w' av m c B S :=
  ⟨h.len, h.cap, h.most, h.lies.imp id fun ⟨g, e, h1, r⟩ => ⟨g, e, h1, r.belowB hb h1⟩⟩
theorem SpIn.of_mg {w : World} {av : Option Addr} {m c lo hi B : Nat} {S : List M1.Upd} (hl : S.length = m) (h : MG w av m c lo hi (scell S)) (hB : hi ≤ B) : SpIn w av m c B S :=
  ⟨hl, h.1, h.2.1, h.2.2.imp (fun x => x.1) fun ⟨g, e, _, h2, r⟩ => ⟨g, e, by omega, r⟩⟩

/-- What l4At answers. -/
def AtR (S : List M1.Upd) (x r : Int) : Prop := (r = -1 ∧ M1.fj S x = none) ∨ ∃ i : Nat, i < S.length ∧ r = (i : Int) ∧ M1.fj S x = some (M1.up S i)

set_option maxHeartbeats 4000000 in
theorem l4At_any (av : Option Addr) (m c B : Nat) (S : List M1.Upd) (x : Int) (w : World) (h : SpIn w av m c B S) :
    Calls Try.prog 85 #[.slice av m c, .int .i64 x] w fun e w' => (∃ r : Int, e = .returned (.int .i64 r) ∧ AtR S x r) ∧ w' = w := by
  have hl : Hid (S.length = m) := h.len
  have hm1 := h.cap
  have hm2 := h.most
  unfold maxLen at hm2
  go_enter Try.func85, Try.ntmps85
  go_wp2_with fail
  go_loop [5] (fun iv => ∃ i : Nat, i ≤ m ∧ iv = .int .i64 i ∧ Hid (∀ j, j < i → ¬ (M1.up S j).id = x)) (fun iv => m - (intOf iv).toNat)
  case atStart => exact ⟨0, Nat.zero_le _, rfl, fun j hj => absurd hj (Nat.not_lt_zero _)⟩
  case round =>
    obtain ⟨i, hi, rfl, hall⟩ := hrel
    by_cases hlt : i < m
    · rcases h.lies with h0 | ⟨g, rfl, _, r1⟩
      · omega
      have hgl := r1.lt
      have i0 : (0 : Int) ≤ (i : Int) := by omega
      have i1 : (i : Int) < (m : Int) := by omega
      have z0 : scell S (i * 5) = .int .i64 (M1.up S i).id := scell_at S i 0 (by omega)
      have d0 := r1.cell (o := i * 5) (by omega)
      rw [z0] at d0
      clear z0
      by_cases hq : (M1.up S i).id = x
      · have qb : ((M1.up S i).id == x) = true := by simp [hq]
        have HA : Hid (AtR S x (i : Int)) := Or.inr ⟨i, by rw [hl.out]; exact hlt, rfl, M1.fj_first (by rw [hl.out]; exact hlt) hq hall.out⟩
        clear hall hq
        go_wp2_with fail
        go_ret
        exact ⟨⟨_, rfl, HA.out⟩, rfl⟩
      · have qb : ((M1.up S i).id == x) = false := by simp [hq]
        have HQ : Hid (∀ j, j < i + 1 → ¬ (M1.up S j).id = x) := fun j hj => by
          by_cases e : j = i
          · rw [e]; exact hq
          · exact hall.out j (by omega)
        clear hall hq
        go_wp2_with fail
        go_round
        case rel => exact ⟨i + 1, by omega, by go_num, HQ⟩
        case measure => simp [intOf]; omega
    · have HA : Hid (AtR S x (-1)) := Or.inl ⟨rfl, M1.fj_nowhere fun j hj => hall.out j (by rw [hl.out] at hj; omega)⟩
      clear hall
      go_wp2_with fail
      go_ret
      exact ⟨⟨_, rfl, HA.out⟩, rfl⟩

set_option maxHeartbeats 4000000 in
theorem l4Ahead_any (u v : M1.Upd) (w : World) :
    Calls Try.prog 104 #[.agg #[.int .i64 u.id, .int .i64 u.pa, .string u.s, .int .i64 u.st, .int .i64 u.en], .agg #[.int .i64 v.id, .int .i64 v.pa, .string v.s, .int .i64 v.st, .int .i64 v.en]] w fun e w' => e = .returned (.bool (M1.stB u v)) ∧ Below w.heap.size w w' := by
  by_cases e1 : u.st < v.st
  · go_enter Try.func104, Try.ntmps104
    go_wp2
    go_ret
    exact ⟨by unfold M1.stB; simp [e1], ((Below.refl _ _).alloc (Nat.le_refl _) _).alloc (by simp) _⟩
  · by_cases e2 : u.st = v.st
    · have q2 : (u.st == v.st) = true := by simp [e2]
      by_cases e3 : u.id < v.id
      · go_enter Try.func104, Try.ntmps104
        go_wp2
        go_ret
        exact ⟨by unfold M1.stB; simp [e2, e3], ((Below.refl _ _).alloc (Nat.le_refl _) _).alloc (by simp) _⟩
      · go_enter Try.func104, Try.ntmps104
        go_wp2
        go_ret
        exact ⟨by unfold M1.stB; simp [e2, e3], ((Below.refl _ _).alloc (Nat.le_refl _) _).alloc (by simp) _⟩
    · have q2 : (u.st == v.st) = false := by simp [e2]
      go_enter Try.func104, Try.ntmps104
      go_wp2
      go_ret
      exact ⟨by unfold M1.stB; simp [e1, e2], ((Below.refl _ _).alloc (Nat.le_refl _) _).alloc (by simp) _⟩

set_option maxHeartbeats 8000000 in
theorem l4Root_any (av : Option Addr) (m c B a : Nat) (S : List M1.Upd) (w : World) (h : SpIn w av m c B S) (hS : S.Pairwise M1.idlt) (ha : a < m) (hm60 : m ≤ 1000) :
    Calls Try.prog 59 #[.slice av m c, .int .i64 a] w fun e w' => e = .returned (.bool (M1.rootB S (M1.up S a))) ∧ w' = w := by
  have hl : Hid (S.length = m) := h.len
  have hm1 := h.cap
  have hm2 := h.most
  unfold maxLen at hm2
  rcases h.lies with h0 | ⟨g, rfl, hgB, r1⟩
  · omega
  have hgl := r1.lt
  obtain ⟨x, hx⟩ : ∃ x, Hid (M1.up S a = x) := ⟨_, rfl⟩
  rw [hx.out]
  have HX : Hid (x ∈ S) := (by rw [← hx.out]; exact M1.up_in (by rw [hl.out]; exact ha) : x ∈ S)
  have HR : Hid (M1.goS S x (m + 1) x x.id = M1.rootB S x) := (by rw [← hl.out]; exact M1.goS_root hS HX.out : _ = _)
  obtain ⟨rb, hrb⟩ : ∃ b, Hid (M1.rootB S x = b) := ⟨_, rfl⟩
  rw [hrb.out] at HR ⊢
  have a0 : (0 : Int) ≤ (a : Int) := by omega
  have a1 : (a : Int) < (m : Int) := by omega
  have z0 : scell S (a * 5) = .int .i64 (M1.up S a).id := scell_at S a 0 (by omega)
  have d0 := r1.cell (o := a * 5) (by omega)
  rw [z0, hx.out] at d0
  clear z0
  go_enter Try.func59, Try.ntmps59
  go_wp2_with fail
  go_loop [5, 6, 7] (fun pv lv iv => ∃ (p i : Nat) (least : Int), p < m ∧ i ≤ m + 1 ∧ pv = .int .i64 p ∧ lv = .int .i64 least ∧ iv = .int .i64 i ∧ Hid (M1.goS S x (m + 1 - i) (M1.up S p) least = rb)) (fun _ _ iv => m + 1 - (intOf iv).toNat)
  case atStart => exact ⟨a, 0, x.id, ha, by omega, rfl, rfl, rfl, (by rw [hx.out]; exact HR.out : _ = _)⟩
  case round =>
    obtain ⟨p, i, least, hp, hi, rfl, rfl, rfl, hg⟩ := hrel
    by_cases hlt : i ≤ m
    · have p0 : (0 : Int) ≤ (p : Int) := by omega
      have p1 : (p : Int) < (m : Int) := by omega
      have z1 : scell S (p * 5 + 1) = .int .i64 (M1.up S p).pa := scell_at S p 1 (by omega)
      have d1 := r1.cell (o := p * 5 + 1) (by omega)
      rw [z1] at d1
      clear z1
      obtain ⟨y, hy⟩ : ∃ y, Hid (M1.up S p = y) := ⟨_, rfl⟩
      rw [hy.out] at d1 hg
      have HE : Hid (M1.goS S x (m + 1 - i) y least = match M1.par S y with | none => decide (y.id = x.id) | some z => if z.id = x.id then decide (min least z.id = x.id) else M1.goS S x (m - i) z (min least z.id)) := (by rw [show m + 1 - i = (m - i) + 1 by omega]; rfl : _ = _)
      go_wp2_with fail
      refine (l4At_any _ _ _ _ S _ _ h).mono ?_
      rintro e w2 ⟨⟨r, rfl, hr⟩, rfl⟩
      rcases hr with ⟨rfl, hno⟩ | ⟨q, hq, rfl, hso⟩
      · have HN : Hid (M1.par S y = none) := hno
        clear hno
        have HQ : Hid (((p : Int) == (a : Int)) = rb) := (by
          rw [← hg.out, HE.out, HN.out]
          show _ = decide (y.id = x.id)
          rw [← hy.out, ← hx.out]
          have := M1.up_ne hS (i := p) (j := a) (by rw [hl.out]; exact hp) (by rw [hl.out]; exact ha)
          by_cases e : p = a
          · simp [e]
          · have e2 : ¬ (M1.up S p).id = (M1.up S a).id := fun q => e (this.1 q)
            simp [e2]; omega : _ = _)
        go_wp2_with fail
        go_ret
        exact ⟨by rw [← HQ.out]; rfl, rfl⟩
      · have HN : Hid (M1.par S y = some (M1.up S q)) := hso
        rw [hl.out] at hq
        clear hso
        have q0 : (0 : Int) ≤ (q : Int) := by omega
        have q1 : (q : Int) < (m : Int) := by omega
        have z2 : scell S (q * 5) = .int .i64 (M1.up S q).id := scell_at S q 0 (by omega)
        have d2 := r1.cell (o := q * 5) (by omega)
        rw [z2] at d2
        clear z2
        obtain ⟨z, hz⟩ : ∃ z, Hid (M1.up S q = z) := ⟨_, rfl⟩
        rw [hz.out] at d2 HN
        have HE2 : Hid (rb = if z.id = x.id then decide (min least z.id = x.id) else M1.goS S x (m - i) z (min least z.id)) := (by rw [← hg.out, HE.out, HN.out] : _ = _)
        by_cases hqa : q = a
        · have hzx : z.id = x.id := by rw [← hz.out, ← hx.out, hqa]
          have qa : ((q : Int) == (a : Int)) = true := by simp [hqa]
          have HF : Hid (rb = decide (min least z.id = x.id)) := (by rw [HE2.out, if_pos hzx] : _ = _)
          clear hqa hzx
          by_cases hml : least ≤ z.id
          · have em : min least z.id = least := by omega
            rw [em] at HF
            clear em
            go_wp2_with fail
            all_goals go_ret
            all_goals (exact ⟨by rw [HF.out]; first | rfl | (simp; done) | (simp; omega), rfl⟩)
          · have em : min least z.id = z.id := by omega
            rw [em] at HF
            clear em
            go_wp2_with fail
            all_goals go_ret
            all_goals (exact ⟨by rw [HF.out]; first | rfl | (simp; done) | (simp; omega), rfl⟩)
        · have hzx : ¬ z.id = x.id := fun e => hqa ((M1.up_ne hS (by rw [hl.out]; exact hq) (by rw [hl.out]; exact ha)).1 (by rw [hz.out, hx.out]; exact e))
          have qa : ((q : Int) == (a : Int)) = false := by simp; omega
          have HF : Hid (M1.goS S x (m + 1 - (i + 1)) (M1.up S q) (min least z.id) = rb) := (by rw [HE2.out, if_neg hzx, hz.out, show m + 1 - (i + 1) = m - i by omega] : _ = _)
          clear hqa hzx
          by_cases hml : least ≤ z.id
          · have em : min least z.id = least := by omega
            rw [em] at HF
            clear em
            go_wp2_with fail
            all_goals go_round
            all_goals first | exact ⟨q, i + 1, least, hq, by omega, rfl, rfl, by go_num, HF⟩ | exact ⟨q, i + 1, least, hq, by omega, rfl, by (congr 1; omega), by go_num, HF⟩ | (simp [intOf]; omega)
          · have em : min least z.id = z.id := by omega
            rw [em] at HF
            clear em
            go_wp2_with fail
            all_goals go_round
            all_goals first | exact ⟨q, i + 1, z.id, hq, by omega, rfl, rfl, by go_num, HF⟩ | exact ⟨q, i + 1, z.id, hq, by omega, rfl, by (congr 1; omega), by go_num, HF⟩ | (simp [intOf]; omega)
    · have HF : Hid (rb = false) := (by rw [← hg.out, show m + 1 - i = 0 by omega]; rfl : _ = _)
      go_wp2_with fail
      go_ret
      exact ⟨by rw [HF.out]; rfl, rfl⟩
end Go.Proofs.Ytdpeopmbboogaaa
