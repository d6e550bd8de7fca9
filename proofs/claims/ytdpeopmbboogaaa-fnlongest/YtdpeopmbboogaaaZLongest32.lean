/-
  Rows of nodes; the contract of the model's l4Under, which calls itself.
-/
import Derived.Test.YtdpeopmbboogaaaZLongest31
import Derived.Test.YtdpeopmbboogaaaZLongest11
import Derived.Deep.LoopGhost
namespace Go.Proofs.Ytdpeopmbboogaaa
open Go.ChangeShapes Go.WideShapes Go.ChangeAt Go.RowKit
set_option linter.unusedSimpArgs false
set_option linter.unusedVariables false

/-- The cells of a node. -/
def ncs (q : M1.Upd × Int) : List Value := [.int .i64 q.1.id, .int .i64 q.1.pa, .string q.1.s, .int .i64 q.1.st, .int .i64 q.1.en, .int .i64 q.2]
def nd (O : List (M1.Upd × Int)) (i : Nat) : M1.Upd × Int := O.getD i (M1.zeroU, 0)
def ncell (O : List (M1.Upd × Int)) (o : Nat) : Value := (ncs (nd O (o / 6))).getD (o % 6) undef
theorem ncell_at (O : List (M1.Upd × Int)) (k j : Nat) (h : j < 6) : ncell O (k * 6 + j) = (ncs (nd O k)).getD j undef := by
  unfold ncell
  rw [show (k * 6 + j) / 6 = k by omega, show (k * 6 + j) % 6 = j by omega]
def nL (O : List (M1.Upd × Int)) : List Value := O.flatMap ncs
theorem nL_snoc (O : List (M1.Upd × Int)) (q : M1.Upd × Int) : nL (O ++ [q]) = nL O ++ ncs q := by simp [nL]
theorem nL_get : ∀ (O : List (M1.Upd × Int)) (o : Nat), o < O.length * 6 → (nL O).getD o undef = ncell O o
  | [], o, h => by simp at h
  | d :: r, o, h => by
    have e0 : nL (d :: r) = ncs d ++ nL r := rfl
    have hl : (ncs d).length = 6 := rfl
    by_cases c : o < 6
    · have e1 : (nL (d :: r)).getD o undef = (ncs d).getD o undef := by
        rw [e0, List.getD_eq_getElem?_getD, List.getElem?_append_left (by omega), ← List.getD_eq_getElem?_getD]
      rw [e1]
      have := ncell_at (d :: r) 0 o c
      rw [Nat.zero_mul, Nat.zero_add] at this
      rw [this]; rfl
    · have ih := nL_get r (o - 6) (by simp at h; omega)
      have e1 : (nL (d :: r)).getD o undef = (nL r).getD (o - 6) undef := by
        rw [e0, List.getD_eq_getElem?_getD, List.getElem?_append_right (by omega), ← List.getD_eq_getElem?_getD, hl]
      rw [e1, ih]
      unfold ncell
      rw [show o / 6 = (o - 6) / 6 + 1 by omega, show (o - 6) % 6 = o % 6 by omega]
      rfl
theorem infoN0 : (Try.prog.info? 36).map (fun i => (i.zero, i.size, i.bytes)) = some (some (.agg #[.int .i64 0, .int .i64 0, .string ByteArray.empty, .int .i64 0, .int .i64 0, .int .i64 0]), 6, 56) := by kernel_rfl
theorem infoN : ∃ i, Try.prog.info? 36 = some i ∧ i.zero = some (.agg #[.int .i64 0, .int .i64 0, .string ByteArray.empty, .int .i64 0, .int .i64 0, .int .i64 0]) ∧ i.size = 6 ∧ i.bytes = 56 := by
  have h := infoN0
  cases e : Try.prog.info? 36 with
  | none => rw [e] at h; cases h
  | some i => rw [e] at h; simp at h; exact ⟨i, rfl, h.1, h.2.1, h.2.2⟩
theorem newsN (w : World) (x0 x1 x2 x3 x4 x5 : Value) (t : TypeId) : ∀ j u, [x0, x1, x2, x3, x4, x5][j]? = some u → (w.alloc (.cells #[x0, x1, x2, x3, x4, x5] t)).cell? ((⟨w.heap.size, 0, none⟩ : Addr).add j) = some u := by
  intro j u hu
  match j, hu with
  | 0, hu => simp at hu; subst hu; simp [Addr.add]
  | 1, hu => simp at hu; subst hu; simp [Addr.add]
  | 2, hu => simp at hu; subst hu; simp [Addr.add]
  | 3, hu => simp at hu; subst hu; simp [Addr.add]
  | 4, hu => simp at hu; subst hu; simp [Addr.add]
  | 5, hu => simp at hu; subst hu; simp [Addr.add]
  | j + 6, hu => simp at hu
theorem oneN (q : M1.Upd × Int) : ∀ v ∈ ncs q, v.oneCell' = true := by
  intro v hv
  simp [ncs] at hv
  rcases hv with rfl | rfl | rfl | rfl | rfl | rfl <;> rfl
theorem nd_get {O : List (M1.Upd × Int)} {i : Nat} (h : i < O.length) : nd O i = O[i] := by simp [nd, List.getD, h]

/-- A list of nodes of one's own: its row. -/
theorem ownN_row {w : World} {base n cap g : Nat} {O : List (M1.Upd × Int)} (hl : O.length = n) (h : w.ownsRow base 36 6 (.slice (some ⟨g, 0, none⟩) n cap) n (nL O)) : RowAt w g (n * 6) (ncell O) :=
  (RowAt.of_owns h).same fun o ho => nL_get O o (by rw [hl]; exact ho)

/-- What stands ahead of a call: nodes that are there, each once, and either the span is among them or nothing of what stands below it is. -/
structure UnP (S : List M1.Upd) (a f : Nat) (D : Int) (O : List (M1.Upd × Int)) : Prop where
  ndO : (M1.idsO O).Nodup
  mem : ∀ q ∈ O, q.1 ∈ S
  alt : (∃ q ∈ O, q.1.id = (M1.up S a).id) ∨ ∃ r d, M1.Pre S r (M1.up S a) d O ∧ f + d = S.length ∧ D = (d : Int)
/-- What comes out. -/
def unO (S : List M1.Upd) (a f : Nat) (D : Int) (O O' : List (M1.Upd × Int)) : Prop := ((∃ q ∈ O, q.1.id = (M1.up S a).id) ∧ O' = O) ∨ ((∀ q ∈ O, ¬ q.1.id = (M1.up S a).id) ∧ O' = O ++ M1.growF S f (M1.up S a) D)
/-- The list that is handed back. -/
def UnW (w' : World) (e : Ending) (B : Nat) (O' : List (M1.Upd × Int)) : Prop := ∃ (av : Option Addr) (cap : Nat), e = .returned (.slice av O'.length cap) ∧ w'.ownsRow B 36 6 (.slice av O'.length cap) O'.length (nL O')

set_option maxHeartbeats 40000000 in
set_option maxRecDepth 100000 in
theorem l4Under_any (av : Option Addr) (m c B : Nat) (S : List M1.Upd) (hS : S.Pairwise M1.idlt) (hm60 : m ≤ 1000) : ∀ (f a : Nat) (D : Int) (O : List (M1.Upd × Int)) (ov : Option Addr) (oc : Nat) (w : World), SpIn w av m c B S → B ≤ w.heap.size → a < m → UnP S a f D O →
    w.ownsRow B 36 6 (.slice ov O.length oc) O.length (nL O) →
    Calls Try.prog 60 #[.slice av m c, .int .i64 a, .int .i64 D, .slice ov O.length oc] w fun e w' => (∃ O', UnW w' e B O' ∧ unO S a f D O O') ∧ Below B w w' := by
  intro f
  induction f with
  | zero =>
    intro a D O ov oc w h hB ha hU hown
    have hl : Hid (S.length = m) := h.len
    have hf : ∃ q ∈ O, q.1.id = (M1.up S a).id := by
      rcases hU.alt with h1 | ⟨r, d, hp, hd, _⟩
      · exact h1
      · have := M1.sub_deep hS hp.sS hp.sub
        omega
    have hm1 := h.cap
    have hm2 := h.most
    unfold maxLen at hm2
    obtain ⟨n, hn⟩ : ∃ n, Hid (O.length = n) := ⟨_, rfl⟩
    rw [hn.out] at hown ⊢
    have hnm : n ≤ m := by rw [← hn.out, ← hl.out]; exact M1.nd_len hU.ndO hU.mem
    rcases h.lies with h0 | ⟨g, rfl, hgB, r1⟩
    · omega
    have hgl := r1.lt
    obtain ⟨s, hs⟩ : ∃ s, Hid (M1.up S a = s) := ⟨_, rfl⟩
    have a0 : (0 : Int) ≤ (a : Int) := by omega
    have a1 : (a : Int) < (m : Int) := by omega
    have hocn : n ≤ oc ∧ oc ≤ 2 ^ 63 - 1 := by
      rcases hown.2 with ⟨e, e2⟩ | ⟨g2, cap, cur, e, _, _, h3, h4, _, _⟩
      · injection e with e1 e2' e3; omega
      · injection e with e1 e2' e3; unfold maxLen at h4; omega
    obtain ⟨ho1, ho2⟩ := hocn
    have z0 : scell S (a * 5) = .int .i64 (M1.up S a).id := scell_at S a 0 (by omega)
    have d0 := r1.cell (o := a * 5) (by omega)
    rw [z0, hs.out] at d0
    clear z0
    go_enter Try.func60, Try.ntmps60
    go_wp2_with fail
    go_loopw [9] (fun iv wr => ∃ i : Nat, i ≤ n ∧ iv = .int .i64 i ∧ Hid (∀ j, j < i → ¬ (nd O j).1.id = s.id) ∧ Below w.heap.size w wr) (fun iv _ => n - (intOf iv).toNat)
    case atStart => exact ⟨0, Nat.zero_le _, rfl, fun j hj => absurd hj (Nat.not_lt_zero _), Below.refl _ _⟩
    case round =>
      obtain ⟨i, hi, rfl, hall, hBw⟩ := hrel
      have hsw := hBw.size
      have own1 := owns_below hown hBw
      by_cases hlt : i < n
      · rcases hown.2 with ⟨e, e2⟩ | ⟨go, cap, cur, e, hgo, _⟩
        · omega
        injection e with e1 e2 e3
        subst e1
        subst e3
        have rO := ownN_row hn.out own1
        have lO := rO.lt
        have i0 : (0 : Int) ≤ (i : Int) := by omega
        have i1 : (i : Int) < (n : Int) := by omega
        have y0 : ncell O (i * 6) = .int .i64 (nd O i).1.id := ncell_at O i 0 (by omega)
        have b0 := rO.cell (o := i * 6) (by omega)
        rw [y0] at b0
        have lg : g < wr.heap.size := by omega
        have dd := (hBw.cell (p := ⟨g, a * 5, none⟩) (by show g < w.heap.size; omega)).trans d0
        clear y0
        by_cases hq : (nd O i).1.id = s.id
        · have qb : ((nd O i).1.id == s.id) = true := by simp [hq]
          have HF : Hid (∃ q ∈ O, q.1.id = (M1.up S a).id) := ⟨nd O i, by rw [nd_get (by rw [hn.out]; exact hlt)]; exact List.getElem_mem _, by rw [hs.out]; exact hq⟩
          clear hq hall
          go_wp2_with fail
          refine wp_region_held_drew (S := fun w' => Kp wr w') (by kernel_rfl) ?_ (fun hHeld => ?_)
          · exact kp_zero _
          refine wpAnyH_take (i := 0) (v := ?_) rfl (by kernel_rfl) (by kernel_rfl) (by kernel_rfl) (fun _ _ _ h => h) (Or.inl ⟨by rfl, ?_⟩) hHeld ?_
          rotate_left
          · (intro w hSw; (try dsimp only at hSw); go_simp; try (with_reducible rfl))
          (try simp only [Act.put, List.getElem_toArray, List.getElem_cons_zero, List.getElem_cons_succ, List.setIfInBounds_toArray, List.set_cons_zero, List.set_cons_succ])
          refine wpAnyH_take (i := 1) (v := ?_) rfl (by kernel_rfl) (by kernel_rfl) (by kernel_rfl) (fun _ _ _ h => h) (Or.inl ⟨by rfl, ?_⟩) hHeld ?_
          rotate_left
          · (intro w hSw; (try dsimp only at hSw); go_simp; try (with_reducible rfl))
          (try simp only [Act.put, List.getElem_toArray, List.getElem_cons_zero, List.getElem_cons_succ, List.setIfInBounds_toArray, List.set_cons_zero, List.set_cons_succ])
          refine wpAnyH_take (i := 2) (v := ?_) rfl (by kernel_rfl) (by kernel_rfl) (by kernel_rfl) (fun _ _ _ h => h) (Or.inl ⟨by rfl, ?_⟩) hHeld ?_
          rotate_left
          · (intro w hSw; (try dsimp only at hSw); go_simp; try (with_reducible rfl))
          (try simp only [Act.put, List.getElem_toArray, List.getElem_cons_zero, List.getElem_cons_succ, List.setIfInBounds_toArray, List.set_cons_zero, List.set_cons_succ])
          refine wpAnyH_take (i := 3) (v := ?_) rfl (by kernel_rfl) (by kernel_rfl) (by kernel_rfl) (fun _ _ _ h => h) (Or.inl ⟨by rfl, ?_⟩) hHeld ?_
          rotate_left
          · (intro w hSw; (try dsimp only at hSw); go_simp; try (with_reducible rfl))
          (try simp only [Act.put, List.getElem_toArray, List.getElem_cons_zero, List.getElem_cons_succ, List.setIfInBounds_toArray, List.set_cons_zero, List.set_cons_succ])
          refine wpAnyH_take (i := 4) (v := ?_) rfl (by kernel_rfl) (by kernel_rfl) (by kernel_rfl) (fun _ _ _ h => h) (Or.inl ⟨by rfl, ?_⟩) hHeld ?_
          rotate_left
          · (intro w hSw; (try dsimp only at hSw); go_simp; try (with_reducible rfl))
          (try simp only [Act.put, List.getElem_toArray, List.getElem_cons_zero, List.getElem_cons_succ, List.setIfInBounds_toArray, List.set_cons_zero, List.set_cons_succ])
          refine wpAnyH_take (i := 5) (v := ?_) rfl (by kernel_rfl) (by kernel_rfl) (by kernel_rfl) (fun _ _ _ h => h) (Or.inl ⟨by rfl, ?_⟩) hHeld ?_
          rotate_left
          · (intro w hSw; (try dsimp only at hSw); go_simp; try (with_reducible rfl))
          (try simp only [Act.put, List.getElem_toArray, List.getElem_cons_zero, List.getElem_cons_succ, List.setIfInBounds_toArray, List.set_cons_zero, List.set_cons_succ])
          refine wpAnyH_take (i := 6) (v := ?_) rfl (by kernel_rfl) (by kernel_rfl) (by kernel_rfl) (fun _ _ _ h => h) (Or.inl ⟨by rfl, ?_⟩) hHeld ?_
          rotate_left
          · (intro w hSw; (try dsimp only at hSw); go_simp; try (with_reducible rfl))
          (try simp only [Act.put, List.getElem_toArray, List.getElem_cons_zero, List.getElem_cons_succ, List.setIfInBounds_toArray, List.set_cons_zero, List.set_cons_succ])
          refine wpAnyH_take (i := 7) (v := ?_) rfl (by kernel_rfl) (by kernel_rfl) (by kernel_rfl) (fun _ _ _ h => h) (Or.inl ⟨by rfl, ?_⟩) hHeld ?_
          rotate_left
          · (intro w hSw; (try dsimp only at hSw); go_simp; try (with_reducible rfl))
          (try simp only [Act.put, List.getElem_toArray, List.getElem_cons_zero, List.getElem_cons_succ, List.setIfInBounds_toArray, List.set_cons_zero, List.set_cons_succ])
          refine wpAnyH_take (i := 8) (v := ?_) rfl (by kernel_rfl) (by kernel_rfl) (by kernel_rfl) (fun _ _ _ h => h) (Or.inl ⟨by rfl, ?_⟩) hHeld ?_
          rotate_left
          · (intro w hSw; (try dsimp only at hSw); go_simp; try (with_reducible rfl))
          (try simp only [Act.put, List.getElem_toArray, List.getElem_cons_zero, List.getElem_cons_succ, List.setIfInBounds_toArray, List.set_cons_zero, List.set_cons_succ])
          refine wpAnyH_take (i := 9) (v := ?_) rfl (by kernel_rfl) (by kernel_rfl) (by kernel_rfl) (fun _ _ _ h => h) (Or.inl ⟨by rfl, ?_⟩) hHeld ?_
          rotate_left
          · (intro w hSw; (try dsimp only at hSw); go_simp; try (with_reducible rfl))
          (try simp only [Act.put, List.getElem_toArray, List.getElem_cons_zero, List.getElem_cons_succ, List.setIfInBounds_toArray, List.set_cons_zero, List.set_cons_succ])
          refine wpAnyH_take (i := 10) (v := ?_) rfl (by kernel_rfl) (by kernel_rfl) (by kernel_rfl) (fun _ _ _ h => h) (Or.inl ⟨by rfl, ?_⟩) hHeld ?_
          rotate_left
          · (intro w hSw; (try dsimp only at hSw); go_simp; try (with_reducible rfl))
          (try simp only [Act.put, List.getElem_toArray, List.getElem_cons_zero, List.getElem_cons_succ, List.setIfInBounds_toArray, List.set_cons_zero, List.set_cons_succ])
          refine wpAnyH_take (i := 11) (v := .bool true) rfl (by kernel_rfl) (by kernel_rfl) (by kernel_rfl) (fun _ _ _ h => h) (Or.inl ⟨by rfl, ?_⟩) hHeld ?_
          · (intro w hSw; (try dsimp only at hSw); go_simp; (try simp [qb]))
          (try simp only [Act.put, List.getElem_toArray, List.getElem_cons_zero, List.getElem_cons_succ, List.setIfInBounds_toArray, List.set_cons_zero, List.set_cons_succ])
          refine wpAnyH_done (by kernel_rfl) ?_ _
          have hB9 := hBw.trans (hHeld.1.mono hBw.size)
          have own9 := owns_below own1 hHeld.1
          clear hHeld
          go_wp2_with fail
          go_ret
          exact ⟨⟨O, ⟨some ⟨go, 0, none⟩, oc, by rw [hn.out]; rfl, by rw [hn.out]; exact own9⟩, Or.inl ⟨HF.out, rfl⟩⟩, hB9.mono hB⟩
        · have qb : ((nd O i).1.id == s.id) = false := by simp [hq]
          have HQ : Hid (∀ j, j < i + 1 → ¬ (nd O j).1.id = s.id) := fun j hj => by
            by_cases e : j = i
            · rw [e]; exact hq
            · exact hall.out j (by omega)
          clear hq hall
          go_wp2_with fail
          refine wp_region_held_drew (S := fun w' => Kp wr w') (by kernel_rfl) ?_ (fun hHeld => ?_)
          · exact kp_zero _
          refine wpAnyH_take (i := 0) (v := ?_) rfl (by kernel_rfl) (by kernel_rfl) (by kernel_rfl) (fun _ _ _ h => h) (Or.inl ⟨by rfl, ?_⟩) hHeld ?_
          rotate_left
          · (intro w hSw; (try dsimp only at hSw); go_simp; try (with_reducible rfl))
          (try simp only [Act.put, List.getElem_toArray, List.getElem_cons_zero, List.getElem_cons_succ, List.setIfInBounds_toArray, List.set_cons_zero, List.set_cons_succ])
          refine wpAnyH_take (i := 1) (v := ?_) rfl (by kernel_rfl) (by kernel_rfl) (by kernel_rfl) (fun _ _ _ h => h) (Or.inl ⟨by rfl, ?_⟩) hHeld ?_
          rotate_left
          · (intro w hSw; (try dsimp only at hSw); go_simp; try (with_reducible rfl))
          (try simp only [Act.put, List.getElem_toArray, List.getElem_cons_zero, List.getElem_cons_succ, List.setIfInBounds_toArray, List.set_cons_zero, List.set_cons_succ])
          refine wpAnyH_take (i := 2) (v := ?_) rfl (by kernel_rfl) (by kernel_rfl) (by kernel_rfl) (fun _ _ _ h => h) (Or.inl ⟨by rfl, ?_⟩) hHeld ?_
          rotate_left
          · (intro w hSw; (try dsimp only at hSw); go_simp; try (with_reducible rfl))
          (try simp only [Act.put, List.getElem_toArray, List.getElem_cons_zero, List.getElem_cons_succ, List.setIfInBounds_toArray, List.set_cons_zero, List.set_cons_succ])
          refine wpAnyH_take (i := 3) (v := ?_) rfl (by kernel_rfl) (by kernel_rfl) (by kernel_rfl) (fun _ _ _ h => h) (Or.inl ⟨by rfl, ?_⟩) hHeld ?_
          rotate_left
          · (intro w hSw; (try dsimp only at hSw); go_simp; try (with_reducible rfl))
          (try simp only [Act.put, List.getElem_toArray, List.getElem_cons_zero, List.getElem_cons_succ, List.setIfInBounds_toArray, List.set_cons_zero, List.set_cons_succ])
          refine wpAnyH_take (i := 4) (v := ?_) rfl (by kernel_rfl) (by kernel_rfl) (by kernel_rfl) (fun _ _ _ h => h) (Or.inl ⟨by rfl, ?_⟩) hHeld ?_
          rotate_left
          · (intro w hSw; (try dsimp only at hSw); go_simp; try (with_reducible rfl))
          (try simp only [Act.put, List.getElem_toArray, List.getElem_cons_zero, List.getElem_cons_succ, List.setIfInBounds_toArray, List.set_cons_zero, List.set_cons_succ])
          refine wpAnyH_take (i := 5) (v := ?_) rfl (by kernel_rfl) (by kernel_rfl) (by kernel_rfl) (fun _ _ _ h => h) (Or.inl ⟨by rfl, ?_⟩) hHeld ?_
          rotate_left
          · (intro w hSw; (try dsimp only at hSw); go_simp; try (with_reducible rfl))
          (try simp only [Act.put, List.getElem_toArray, List.getElem_cons_zero, List.getElem_cons_succ, List.setIfInBounds_toArray, List.set_cons_zero, List.set_cons_succ])
          refine wpAnyH_take (i := 6) (v := ?_) rfl (by kernel_rfl) (by kernel_rfl) (by kernel_rfl) (fun _ _ _ h => h) (Or.inl ⟨by rfl, ?_⟩) hHeld ?_
          rotate_left
          · (intro w hSw; (try dsimp only at hSw); go_simp; try (with_reducible rfl))
          (try simp only [Act.put, List.getElem_toArray, List.getElem_cons_zero, List.getElem_cons_succ, List.setIfInBounds_toArray, List.set_cons_zero, List.set_cons_succ])
          refine wpAnyH_take (i := 7) (v := ?_) rfl (by kernel_rfl) (by kernel_rfl) (by kernel_rfl) (fun _ _ _ h => h) (Or.inl ⟨by rfl, ?_⟩) hHeld ?_
          rotate_left
          · (intro w hSw; (try dsimp only at hSw); go_simp; try (with_reducible rfl))
          (try simp only [Act.put, List.getElem_toArray, List.getElem_cons_zero, List.getElem_cons_succ, List.setIfInBounds_toArray, List.set_cons_zero, List.set_cons_succ])
          refine wpAnyH_take (i := 8) (v := ?_) rfl (by kernel_rfl) (by kernel_rfl) (by kernel_rfl) (fun _ _ _ h => h) (Or.inl ⟨by rfl, ?_⟩) hHeld ?_
          rotate_left
          · (intro w hSw; (try dsimp only at hSw); go_simp; try (with_reducible rfl))
          (try simp only [Act.put, List.getElem_toArray, List.getElem_cons_zero, List.getElem_cons_succ, List.setIfInBounds_toArray, List.set_cons_zero, List.set_cons_succ])
          refine wpAnyH_take (i := 9) (v := ?_) rfl (by kernel_rfl) (by kernel_rfl) (by kernel_rfl) (fun _ _ _ h => h) (Or.inl ⟨by rfl, ?_⟩) hHeld ?_
          rotate_left
          · (intro w hSw; (try dsimp only at hSw); go_simp; try (with_reducible rfl))
          (try simp only [Act.put, List.getElem_toArray, List.getElem_cons_zero, List.getElem_cons_succ, List.setIfInBounds_toArray, List.set_cons_zero, List.set_cons_succ])
          refine wpAnyH_take (i := 10) (v := ?_) rfl (by kernel_rfl) (by kernel_rfl) (by kernel_rfl) (fun _ _ _ h => h) (Or.inl ⟨by rfl, ?_⟩) hHeld ?_
          rotate_left
          · (intro w hSw; (try dsimp only at hSw); go_simp; try (with_reducible rfl))
          (try simp only [Act.put, List.getElem_toArray, List.getElem_cons_zero, List.getElem_cons_succ, List.setIfInBounds_toArray, List.set_cons_zero, List.set_cons_succ])
          refine wpAnyH_take (i := 11) (v := .bool false) rfl (by kernel_rfl) (by kernel_rfl) (by kernel_rfl) (fun _ _ _ h => h) (Or.inl ⟨by rfl, ?_⟩) hHeld ?_
          · (intro w hSw; (try dsimp only at hSw); go_simp; (try simp [qb]))
          (try simp only [Act.put, List.getElem_toArray, List.getElem_cons_zero, List.getElem_cons_succ, List.setIfInBounds_toArray, List.set_cons_zero, List.set_cons_succ])
          refine wpAnyH_done (by kernel_rfl) ?_ _
          have hB9 := hBw.trans (hHeld.1.mono hBw.size)
          clear hHeld
          go_wp2_with fail
          exact ⟨⟨i + 1, by omega, by go_num, HQ, hB9⟩, by simp [intOf]; omega⟩
      · exfalso
        obtain ⟨q, hq, e⟩ := hf
        obtain ⟨j, hj, e2⟩ := List.getElem_of_mem hq
        have := hall.out j (by rw [hn.out] at hj; omega)
        rw [nd_get hj, e2, ← hs.out] at this
        exact this e
  | succ f ih =>
    intro a D O ov oc w h hB ha hU hown
    have hl : Hid (S.length = m) := h.len
    have hm1 := h.cap
    have hm2 := h.most
    unfold maxLen at hm2
    obtain ⟨n, hn⟩ : ∃ n, Hid (O.length = n) := ⟨_, rfl⟩
    rw [hn.out] at hown ⊢
    have hnm : n ≤ m := by rw [← hn.out, ← hl.out]; exact M1.nd_len hU.ndO hU.mem
    rcases h.lies with h0 | ⟨g, rfl, hgB, r1⟩
    · omega
    have hgl := r1.lt
    obtain ⟨s, hs⟩ : ∃ s, Hid (M1.up S a = s) := ⟨_, rfl⟩
    have a0 : (0 : Int) ≤ (a : Int) := by omega
    have a1 : (a : Int) < (m : Int) := by omega
    have hocn : n ≤ oc ∧ oc ≤ 2 ^ 63 - 1 := by
      rcases hown.2 with ⟨e, e2⟩ | ⟨g2, cap, cur, e, _, _, h3, h4, _, _⟩
      · injection e with e1 e2' e3; omega
      · injection e with e1 e2' e3; unfold maxLen at h4; omega
    obtain ⟨ho1, ho2⟩ := hocn
    have z0 : scell S (a * 5) = .int .i64 (M1.up S a).id := scell_at S a 0 (by omega)
    have d0 := r1.cell (o := a * 5) (by omega)
    rw [z0, hs.out] at d0
    clear z0
    go_enter Try.func60, Try.ntmps60
    go_wp2_with fail
    go_loopw [9] (fun iv wr => ∃ i : Nat, i ≤ n ∧ iv = .int .i64 i ∧ Hid (∀ j, j < i → ¬ (nd O j).1.id = s.id) ∧ Below w.heap.size w wr) (fun iv _ => n - (intOf iv).toNat)
    case atStart => exact ⟨0, Nat.zero_le _, rfl, fun j hj => absurd hj (Nat.not_lt_zero _), Below.refl _ _⟩
    case round =>
      obtain ⟨i, hi, rfl, hall, hBw⟩ := hrel
      have hsw := hBw.size
      have own1 := owns_below hown hBw
      by_cases hlt : i < n
      · rcases hown.2 with ⟨e, e2⟩ | ⟨go, cap, cur, e, hgo, _⟩
        · omega
        injection e with e1 e2 e3
        subst e1
        subst e3
        have rO := ownN_row hn.out own1
        have lO := rO.lt
        have i0 : (0 : Int) ≤ (i : Int) := by omega
        have i1 : (i : Int) < (n : Int) := by omega
        have y0 : ncell O (i * 6) = .int .i64 (nd O i).1.id := ncell_at O i 0 (by omega)
        have b0 := rO.cell (o := i * 6) (by omega)
        rw [y0] at b0
        have lg : g < wr.heap.size := by omega
        have dd := (hBw.cell (p := ⟨g, a * 5, none⟩) (by show g < w.heap.size; omega)).trans d0
        clear y0
        by_cases hq : (nd O i).1.id = s.id
        · have qb : ((nd O i).1.id == s.id) = true := by simp [hq]
          have HF : Hid (∃ q ∈ O, q.1.id = (M1.up S a).id) := ⟨nd O i, by rw [nd_get (by rw [hn.out]; exact hlt)]; exact List.getElem_mem _, by rw [hs.out]; exact hq⟩
          clear hq hall
          go_wp2_with fail
          refine wp_region_held_drew (S := fun w' => Kp wr w') (by kernel_rfl) ?_ (fun hHeld => ?_)
          · exact kp_zero _
          refine wpAnyH_take (i := 0) (v := ?_) rfl (by kernel_rfl) (by kernel_rfl) (by kernel_rfl) (fun _ _ _ h => h) (Or.inl ⟨by rfl, ?_⟩) hHeld ?_
          rotate_left
          · (intro w hSw; (try dsimp only at hSw); go_simp; try (with_reducible rfl))
          (try simp only [Act.put, List.getElem_toArray, List.getElem_cons_zero, List.getElem_cons_succ, List.setIfInBounds_toArray, List.set_cons_zero, List.set_cons_succ])
          refine wpAnyH_take (i := 1) (v := ?_) rfl (by kernel_rfl) (by kernel_rfl) (by kernel_rfl) (fun _ _ _ h => h) (Or.inl ⟨by rfl, ?_⟩) hHeld ?_
          rotate_left
          · (intro w hSw; (try dsimp only at hSw); go_simp; try (with_reducible rfl))
          (try simp only [Act.put, List.getElem_toArray, List.getElem_cons_zero, List.getElem_cons_succ, List.setIfInBounds_toArray, List.set_cons_zero, List.set_cons_succ])
          refine wpAnyH_take (i := 2) (v := ?_) rfl (by kernel_rfl) (by kernel_rfl) (by kernel_rfl) (fun _ _ _ h => h) (Or.inl ⟨by rfl, ?_⟩) hHeld ?_
          rotate_left
          · (intro w hSw; (try dsimp only at hSw); go_simp; try (with_reducible rfl))
          (try simp only [Act.put, List.getElem_toArray, List.getElem_cons_zero, List.getElem_cons_succ, List.setIfInBounds_toArray, List.set_cons_zero, List.set_cons_succ])
          refine wpAnyH_take (i := 3) (v := ?_) rfl (by kernel_rfl) (by kernel_rfl) (by kernel_rfl) (fun _ _ _ h => h) (Or.inl ⟨by rfl, ?_⟩) hHeld ?_
          rotate_left
          · (intro w hSw; (try dsimp only at hSw); go_simp; try (with_reducible rfl))
          (try simp only [Act.put, List.getElem_toArray, List.getElem_cons_zero, List.getElem_cons_succ, List.setIfInBounds_toArray, List.set_cons_zero, List.set_cons_succ])
          refine wpAnyH_take (i := 4) (v := ?_) rfl (by kernel_rfl) (by kernel_rfl) (by kernel_rfl) (fun _ _ _ h => h) (Or.inl ⟨by rfl, ?_⟩) hHeld ?_
          rotate_left
          · (intro w hSw; (try dsimp only at hSw); go_simp; try (with_reducible rfl))
          (try simp only [Act.put, List.getElem_toArray, List.getElem_cons_zero, List.getElem_cons_succ, List.setIfInBounds_toArray, List.set_cons_zero, List.set_cons_succ])
          refine wpAnyH_take (i := 5) (v := ?_) rfl (by kernel_rfl) (by kernel_rfl) (by kernel_rfl) (fun _ _ _ h => h) (Or.inl ⟨by rfl, ?_⟩) hHeld ?_
          rotate_left
          · (intro w hSw; (try dsimp only at hSw); go_simp; try (with_reducible rfl))
          (try simp only [Act.put, List.getElem_toArray, List.getElem_cons_zero, List.getElem_cons_succ, List.setIfInBounds_toArray, List.set_cons_zero, List.set_cons_succ])
          refine wpAnyH_take (i := 6) (v := ?_) rfl (by kernel_rfl) (by kernel_rfl) (by kernel_rfl) (fun _ _ _ h => h) (Or.inl ⟨by rfl, ?_⟩) hHeld ?_
          rotate_left
          · (intro w hSw; (try dsimp only at hSw); go_simp; try (with_reducible rfl))
          (try simp only [Act.put, List.getElem_toArray, List.getElem_cons_zero, List.getElem_cons_succ, List.setIfInBounds_toArray, List.set_cons_zero, List.set_cons_succ])
          refine wpAnyH_take (i := 7) (v := ?_) rfl (by kernel_rfl) (by kernel_rfl) (by kernel_rfl) (fun _ _ _ h => h) (Or.inl ⟨by rfl, ?_⟩) hHeld ?_
          rotate_left
          · (intro w hSw; (try dsimp only at hSw); go_simp; try (with_reducible rfl))
          (try simp only [Act.put, List.getElem_toArray, List.getElem_cons_zero, List.getElem_cons_succ, List.setIfInBounds_toArray, List.set_cons_zero, List.set_cons_succ])
          refine wpAnyH_take (i := 8) (v := ?_) rfl (by kernel_rfl) (by kernel_rfl) (by kernel_rfl) (fun _ _ _ h => h) (Or.inl ⟨by rfl, ?_⟩) hHeld ?_
          rotate_left
          · (intro w hSw; (try dsimp only at hSw); go_simp; try (with_reducible rfl))
          (try simp only [Act.put, List.getElem_toArray, List.getElem_cons_zero, List.getElem_cons_succ, List.setIfInBounds_toArray, List.set_cons_zero, List.set_cons_succ])
          refine wpAnyH_take (i := 9) (v := ?_) rfl (by kernel_rfl) (by kernel_rfl) (by kernel_rfl) (fun _ _ _ h => h) (Or.inl ⟨by rfl, ?_⟩) hHeld ?_
          rotate_left
          · (intro w hSw; (try dsimp only at hSw); go_simp; try (with_reducible rfl))
          (try simp only [Act.put, List.getElem_toArray, List.getElem_cons_zero, List.getElem_cons_succ, List.setIfInBounds_toArray, List.set_cons_zero, List.set_cons_succ])
          refine wpAnyH_take (i := 10) (v := ?_) rfl (by kernel_rfl) (by kernel_rfl) (by kernel_rfl) (fun _ _ _ h => h) (Or.inl ⟨by rfl, ?_⟩) hHeld ?_
          rotate_left
          · (intro w hSw; (try dsimp only at hSw); go_simp; try (with_reducible rfl))
          (try simp only [Act.put, List.getElem_toArray, List.getElem_cons_zero, List.getElem_cons_succ, List.setIfInBounds_toArray, List.set_cons_zero, List.set_cons_succ])
          refine wpAnyH_take (i := 11) (v := .bool true) rfl (by kernel_rfl) (by kernel_rfl) (by kernel_rfl) (fun _ _ _ h => h) (Or.inl ⟨by rfl, ?_⟩) hHeld ?_
          · (intro w hSw; (try dsimp only at hSw); go_simp; (try simp [qb]))
          (try simp only [Act.put, List.getElem_toArray, List.getElem_cons_zero, List.getElem_cons_succ, List.setIfInBounds_toArray, List.set_cons_zero, List.set_cons_succ])
          refine wpAnyH_done (by kernel_rfl) ?_ _
          have hB9 := hBw.trans (hHeld.1.mono hBw.size)
          have own9 := owns_below own1 hHeld.1
          clear hHeld
          go_wp2_with fail
          go_ret
          exact ⟨⟨O, ⟨some ⟨go, 0, none⟩, oc, by rw [hn.out]; rfl, by rw [hn.out]; exact own9⟩, Or.inl ⟨HF.out, rfl⟩⟩, hB9.mono hB⟩
        · have qb : ((nd O i).1.id == s.id) = false := by simp [hq]
          have HQ : Hid (∀ j, j < i + 1 → ¬ (nd O j).1.id = s.id) := fun j hj => by
            by_cases e : j = i
            · rw [e]; exact hq
            · exact hall.out j (by omega)
          clear hq hall
          go_wp2_with fail
          refine wp_region_held_drew (S := fun w' => Kp wr w') (by kernel_rfl) ?_ (fun hHeld => ?_)
          · exact kp_zero _
          refine wpAnyH_take (i := 0) (v := ?_) rfl (by kernel_rfl) (by kernel_rfl) (by kernel_rfl) (fun _ _ _ h => h) (Or.inl ⟨by rfl, ?_⟩) hHeld ?_
          rotate_left
          · (intro w hSw; (try dsimp only at hSw); go_simp; try (with_reducible rfl))
          (try simp only [Act.put, List.getElem_toArray, List.getElem_cons_zero, List.getElem_cons_succ, List.setIfInBounds_toArray, List.set_cons_zero, List.set_cons_succ])
          refine wpAnyH_take (i := 1) (v := ?_) rfl (by kernel_rfl) (by kernel_rfl) (by kernel_rfl) (fun _ _ _ h => h) (Or.inl ⟨by rfl, ?_⟩) hHeld ?_
          rotate_left
          · (intro w hSw; (try dsimp only at hSw); go_simp; try (with_reducible rfl))
          (try simp only [Act.put, List.getElem_toArray, List.getElem_cons_zero, List.getElem_cons_succ, List.setIfInBounds_toArray, List.set_cons_zero, List.set_cons_succ])
          refine wpAnyH_take (i := 2) (v := ?_) rfl (by kernel_rfl) (by kernel_rfl) (by kernel_rfl) (fun _ _ _ h => h) (Or.inl ⟨by rfl, ?_⟩) hHeld ?_
          rotate_left
          · (intro w hSw; (try dsimp only at hSw); go_simp; try (with_reducible rfl))
          (try simp only [Act.put, List.getElem_toArray, List.getElem_cons_zero, List.getElem_cons_succ, List.setIfInBounds_toArray, List.set_cons_zero, List.set_cons_succ])
          refine wpAnyH_take (i := 3) (v := ?_) rfl (by kernel_rfl) (by kernel_rfl) (by kernel_rfl) (fun _ _ _ h => h) (Or.inl ⟨by rfl, ?_⟩) hHeld ?_
          rotate_left
          · (intro w hSw; (try dsimp only at hSw); go_simp; try (with_reducible rfl))
          (try simp only [Act.put, List.getElem_toArray, List.getElem_cons_zero, List.getElem_cons_succ, List.setIfInBounds_toArray, List.set_cons_zero, List.set_cons_succ])
          refine wpAnyH_take (i := 4) (v := ?_) rfl (by kernel_rfl) (by kernel_rfl) (by kernel_rfl) (fun _ _ _ h => h) (Or.inl ⟨by rfl, ?_⟩) hHeld ?_
          rotate_left
          · (intro w hSw; (try dsimp only at hSw); go_simp; try (with_reducible rfl))
          (try simp only [Act.put, List.getElem_toArray, List.getElem_cons_zero, List.getElem_cons_succ, List.setIfInBounds_toArray, List.set_cons_zero, List.set_cons_succ])
          refine wpAnyH_take (i := 5) (v := ?_) rfl (by kernel_rfl) (by kernel_rfl) (by kernel_rfl) (fun _ _ _ h => h) (Or.inl ⟨by rfl, ?_⟩) hHeld ?_
          rotate_left
          · (intro w hSw; (try dsimp only at hSw); go_simp; try (with_reducible rfl))
          (try simp only [Act.put, List.getElem_toArray, List.getElem_cons_zero, List.getElem_cons_succ, List.setIfInBounds_toArray, List.set_cons_zero, List.set_cons_succ])
          refine wpAnyH_take (i := 6) (v := ?_) rfl (by kernel_rfl) (by kernel_rfl) (by kernel_rfl) (fun _ _ _ h => h) (Or.inl ⟨by rfl, ?_⟩) hHeld ?_
          rotate_left
          · (intro w hSw; (try dsimp only at hSw); go_simp; try (with_reducible rfl))
          (try simp only [Act.put, List.getElem_toArray, List.getElem_cons_zero, List.getElem_cons_succ, List.setIfInBounds_toArray, List.set_cons_zero, List.set_cons_succ])
          refine wpAnyH_take (i := 7) (v := ?_) rfl (by kernel_rfl) (by kernel_rfl) (by kernel_rfl) (fun _ _ _ h => h) (Or.inl ⟨by rfl, ?_⟩) hHeld ?_
          rotate_left
          · (intro w hSw; (try dsimp only at hSw); go_simp; try (with_reducible rfl))
          (try simp only [Act.put, List.getElem_toArray, List.getElem_cons_zero, List.getElem_cons_succ, List.setIfInBounds_toArray, List.set_cons_zero, List.set_cons_succ])
          refine wpAnyH_take (i := 8) (v := ?_) rfl (by kernel_rfl) (by kernel_rfl) (by kernel_rfl) (fun _ _ _ h => h) (Or.inl ⟨by rfl, ?_⟩) hHeld ?_
          rotate_left
          · (intro w hSw; (try dsimp only at hSw); go_simp; try (with_reducible rfl))
          (try simp only [Act.put, List.getElem_toArray, List.getElem_cons_zero, List.getElem_cons_succ, List.setIfInBounds_toArray, List.set_cons_zero, List.set_cons_succ])
          refine wpAnyH_take (i := 9) (v := ?_) rfl (by kernel_rfl) (by kernel_rfl) (by kernel_rfl) (fun _ _ _ h => h) (Or.inl ⟨by rfl, ?_⟩) hHeld ?_
          rotate_left
          · (intro w hSw; (try dsimp only at hSw); go_simp; try (with_reducible rfl))
          (try simp only [Act.put, List.getElem_toArray, List.getElem_cons_zero, List.getElem_cons_succ, List.setIfInBounds_toArray, List.set_cons_zero, List.set_cons_succ])
          refine wpAnyH_take (i := 10) (v := ?_) rfl (by kernel_rfl) (by kernel_rfl) (by kernel_rfl) (fun _ _ _ h => h) (Or.inl ⟨by rfl, ?_⟩) hHeld ?_
          rotate_left
          · (intro w hSw; (try dsimp only at hSw); go_simp; try (with_reducible rfl))
          (try simp only [Act.put, List.getElem_toArray, List.getElem_cons_zero, List.getElem_cons_succ, List.setIfInBounds_toArray, List.set_cons_zero, List.set_cons_succ])
          refine wpAnyH_take (i := 11) (v := .bool false) rfl (by kernel_rfl) (by kernel_rfl) (by kernel_rfl) (fun _ _ _ h => h) (Or.inl ⟨by rfl, ?_⟩) hHeld ?_
          · (intro w hSw; (try dsimp only at hSw); go_simp; (try simp [qb]))
          (try simp only [Act.put, List.getElem_toArray, List.getElem_cons_zero, List.getElem_cons_succ, List.setIfInBounds_toArray, List.set_cons_zero, List.set_cons_succ])
          refine wpAnyH_done (by kernel_rfl) ?_ _
          have hB9 := hBw.trans (hHeld.1.mono hBw.size)
          clear hHeld
          go_wp2_with fail
          exact ⟨⟨i + 1, by omega, by go_num, HQ, hB9⟩, by simp [intOf]; omega⟩
      · have HNF : Hid (∀ q ∈ O, ¬ q.1.id = (M1.up S a).id) := fun q hq e => by
          obtain ⟨j, hj, e2⟩ := List.getElem_of_mem hq
          have := hall.out j (by rw [hn.out] at hj; omega)
          rw [nd_get hj, e2, ← hs.out] at this
          exact this e
        have hpre : ∃ r d, M1.Pre S r (M1.up S a) d O ∧ f + 1 + d = S.length ∧ D = (d : Int) := by
          rcases hU.alt with ⟨q, hq, e⟩ | h1
          · exact absurd e (HNF.out q hq)
          · exact h1
        obtain ⟨r, d, hpre, hfd, hD⟩ := hpre
        rw [hs.out] at hpre
        have HP : Hid (M1.Pre S r s d O) := hpre
        have HFD : Hid (f + 1 + d = m) := (by rw [← hl.out]; exact hfd : f + 1 + d = m)
        have hD0 : 0 ≤ D := by omega
        have hD1 : D ≤ 1000 := by have := HFD.out; omega
        have HDD : Hid (D = (d : Int)) := hD
        have HU1 : Hid ((M1.idsO O).Nodup) := hU.ndO
        have HU2 : Hid (∀ q ∈ O, q.1 ∈ S) := hU.mem
        have hn1 : n + 1 ≤ m := by
          have := M1.nd_len (O := O ++ [(s, D)]) (M1.nd_put hS hpre hU.ndO) (fun q hq => by
            rcases List.mem_append.1 hq with h1 | h1
            · exact hU.mem q h1
            · simp at h1; rw [h1]; exact hpre.sS)
          rw [hl.out] at this
          simp at this
          rw [hn.out] at this
          exact this
        clear hpre hfd hD hU hall
        obtain ⟨ti, hi1, hi2, hi3, hi4⟩ := infoN
        have hi4' : Hid (ti.bytes = 56) := hi4
        have hi2' : Hid (ti.zero = some (.agg #[.int .i64 0, .int .i64 0, .string ByteArray.empty, .int .i64 0, .int .i64 0, .int .i64 0])) := hi2
        have hi3' : Hid (ti.size = 6) := hi3
        have hi1' : Hid (Try.prog.info? 36 = some ti) := hi1
        clear hi1 hi2 hi3 hi4
        have r2 := r1.below hBw
        have lg := r2.lt
        have HY0 : Hid (scell S (a * 5) = .int .i64 (M1.up S a).id) := scell_at S a 0 (by omega)
        have zs0 : scell S (a * 5) = .int .i64 (M1.up S a).id := scell_at S a 0 (by omega)
        have cs0 := r2.cell (o := a * 5) (by omega)
        rw [zs0, hs.out] at cs0
        clear zs0
        have zs1 : scell S (a * 5 + 1) = .int .i64 (M1.up S a).pa := scell_at S a 1 (by omega)
        have cs1 := r2.cell (o := a * 5 + 1) (by omega)
        rw [zs1, hs.out] at cs1
        clear zs1
        have zs2 : scell S (a * 5 + 2) = .string (M1.up S a).s := scell_at S a 2 (by omega)
        have cs2 := r2.cell (o := a * 5 + 2) (by omega)
        rw [zs2, hs.out] at cs2
        clear zs2
        have zs3 : scell S (a * 5 + 3) = .int .i64 (M1.up S a).st := scell_at S a 3 (by omega)
        have cs3 := r2.cell (o := a * 5 + 3) (by omega)
        rw [zs3, hs.out] at cs3
        clear zs3
        have zs4 : scell S (a * 5 + 4) = .int .i64 (M1.up S a).en := scell_at S a 4 (by omega)
        have cs4 := r2.cell (o := a * 5 + 4) (by omega)
        rw [zs4, hs.out] at cs4
        clear zs4
        go_wp2_with (at_builtin; refine wpList_append_lies _ rfl _ _ _ rfl B 36 ti _ 6 56 Try.underlying27 hi1'.out hi2'.out hi3'.out hi4'.out rfl (by omega) (.slice ov n oc) n (nL O) rfl (owns_below own1 ((Below.refl _ _).alloc (Nat.le_refl _) _)) ⟨wr.heap.size, 0, none⟩ 1 1 (ncs (s, D)) rfl rfl (newsN _ _ _ _ _ _ _ _) (oneN _) (by omega) (by unfold maxLen; omega) (by omega) (by simp; omega) _ rfl ?_; intro g4 cap4 w4 hown4 hgrow4 hat4 hlt4; have hB4 : Below B w w4 := ((hBw.mono hB).alloc (by omega) _).grown hgrow4 (by simp; omega) (owns_base own1); have r4 := r1.belowB hB4 hgB; have lg4 := r4.lt; have e0 := r4.cell (o := a * 5) (by omega); rw [HY0.out, hs.out] at e0)
        have hs4 := hB4.size
        have h4 := h.below hB4
        have hBs4 : B ≤ w4.heap.size := by omega
        have HO0 : Hid (nL O ++ ncs (s, D) = nL (O ++ (s, D) :: M1.kidsTo S f s D 0)) := (by rw [← nL_snoc]; rfl : _ = _)
        clear cs0 cs1 cs2 cs3 cs4 hgrow4 hat4 hlt4 own1
        obtain ⟨KL, hKL⟩ : ∃ k, Hid ((M1.kids S s).length = k) := ⟨_, rfl⟩
        have hNX : Hid (∀ i, i ≤ KL → M1.nx S s.id (M1.lastK S s i) m = if i < KL then some (M1.up (M1.kids S s) i) else none) := fun i hi => by
          have := M1.nx_kid hS (s := s) (i := i) (by rw [hKL.out]; exact hi)
          rw [hl.out, hKL.out] at this; exact this
        refine (l4Next_any _ _ _ _ S _ _ none _ h4 hBs4 (Or.inl ⟨rfl, rfl⟩) hm60).mono ?_
        rintro e w5 ⟨⟨r5, rfl, hr5⟩, hb5⟩
        have HR5 : Hid (PlR S (if 0 < KL then some (M1.up (M1.kids S s) 0) else none) r5) := (by rw [← hNX.out 0 (Nat.zero_le _)]; exact hr5 : _)
        have hB5 : Below B w w5 := hB4.trans (hb5.mono hBs4)
        have own5 := owns_below hown4 hb5
        rw [HO0.out] at own5
        have HL0 : Hid ((O ++ (s, D) :: M1.kidsTo S f s D 0).length = n + 1) := (by simp [M1.kidsTo, hn.out] : _ = _)
        clear hr5 hb5 hown4 hB4 hs4 h4 r4 lg4 e0 hBs4 r2 lg
        go_wp2_with fail
        go_loopg [3, 10] KL (fun k v kv wr => ∃ (i q : Nat) (ov2 : Option Addr) (oc2 : Nat) (r6 : Int), k = KL - i ∧ i ≤ KL ∧ v = .slice ov2 q oc2 ∧ kv = .int .i64 r6 ∧ Hid ((O ++ (s, D) :: M1.kidsTo S f s D i).length = q) ∧ Hid (PlR S (if i < KL then some (M1.up (M1.kids S s) i) else none) r6) ∧ wr.ownsRow B 36 6 (.slice ov2 q oc2) q (nL (O ++ (s, D) :: M1.kidsTo S f s D i)) ∧ Below B w wr)
        case atStart => exact ⟨0, n + 1, _, _, r5, rfl, Nat.zero_le _, rfl, rfl, HL0, HR5, own5, hB5⟩
        case round =>
          clear own5 hB5 HR5 HO0 HL0
          obtain ⟨i, q, ov2, oc2, r6, hgk, hi, rfl, rfl, hq, hr6, own6, hB6⟩ := hrel
          have hs6 := hB6.size
          by_cases hik : i < KL
          · have hkk : ∃ j : Nat, j < m ∧ r6 = (j : Int) ∧ M1.up (M1.kids S s) i = M1.up S j := by
              have := hr6.out
              rw [if_pos hik] at this
              rcases this with ⟨_, e⟩ | ⟨j, hj, e, e2⟩
              · cases e
              · injection e2 with e2
                rw [hl.out] at hj
                exact ⟨j, hj, e, e2⟩
            obtain ⟨j, hj, rfl, hkj⟩ := hkk
            have hiK : i < (M1.kids S s).length := by rw [hKL.out]; exact hik
            have HKJ : Hid (M1.up (M1.kids S s) i = M1.up S j) := hkj
            clear hkj hr6
            have HSTEP : Hid (M1.kidsTo S f s D (i + 1) = M1.kidsTo S f s D i ++ (if M1.rootB S (M1.up (M1.kids S s) i) = true then [] else M1.growF S f (M1.up (M1.kids S s) i) (D + 1))) := M1.kidsTo_step hiK
            have hUk : UnP S j f (D + 1) (O ++ (s, D) :: M1.kidsTo S f s D i) := by
              refine ⟨M1.nd_kids hS HP.out HU1.out i (by omega), M1.kids_mem2 hS HP.out.sS HU2.out (by omega), ?_⟩
              by_cases c : M1.rootB S (M1.up (M1.kids S s) i) = true
              · left
                rw [← HKJ.out]
                exact M1.root_kid hS HP.out hiK c
              · right
                rw [← HKJ.out]
                exact ⟨r, d + 1, M1.pre_kid hS HP.out hiK (by simpa using c), by have := HFD.out; rw [hl.out]; omega, by rw [HDD.out]; simp⟩
            have hIH := ih j (D + 1) (O ++ (s, D) :: M1.kidsTo S f s D i) ov2 oc2 wr (h.below hB6) (by omega) hj hUk (by rw [hq.out]; exact own6)
            rw [hq.out] at hIH
            have HOUT : Hid (∀ O', unO S j f (D + 1) (O ++ (s, D) :: M1.kidsTo S f s D i) O' → O' = O ++ (s, D) :: M1.kidsTo S f s D (i + 1)) := fun O' hO' => by
              rw [HSTEP.out]
              by_cases c : M1.rootB S (M1.up (M1.kids S s) i) = true
              · rw [if_pos c, List.append_nil]
                rcases hO' with ⟨_, e⟩ | ⟨hno, _⟩
                · exact e
                · obtain ⟨q, hq, e⟩ := M1.root_kid hS (f := f) (D := D) HP.out hiK c
                  exact absurd (by rw [← HKJ.out]; exact e) (hno q hq)
              · rw [if_neg c]
                rcases hO' with ⟨⟨q, hq, e⟩, _⟩ | ⟨_, e⟩
                · have hp2 := M1.pre_kid hS (f := f) (D := D) HP.out hiK (by simpa using c)
                  rcases hp2.out q hq with h1 | h1
                  · exact absurd (by rw [HKJ.out]; exact e) h1
                  · exact absurd hS h1
                · rw [e, ← HKJ.out]; simp
            clear own6
            have j0 : (0 : Int) ≤ (j : Int) := by omega
            have r7 := r1.belowB hB6 hgB
            go_wp2_with fail
            refine hIH.mono ?_
            rintro e w7 ⟨⟨O', ⟨ov7, oc7, rfl, own7⟩, hO'⟩, hb7⟩
            have HO7 := HOUT.out O' hO'
            subst HO7
            have hB7 : Below B w w7 := hB6.trans hb7
            have hs7 := hB7.size
            have hBs7 : B ≤ w7.heap.size := by omega
            have r8 := r1.belowB hB7 hgB
            have lg8 := r8.lt
            have e0 := r8.cell (o := a * 5) (by omega)
            have y0 : scell S (a * 5) = .int .i64 (M1.up S a).id := scell_at S a 0 (by omega)
            rw [y0, hs.out] at e0
            clear y0 hO' hIH hUk r7 hb7
            obtain ⟨q7, hq7⟩ : ∃ q, Hid ((O ++ (s, D) :: M1.kidsTo S f s D (i + 1)).length = q) := ⟨_, rfl⟩
            rw [hq7.out] at own7 ⊢
            go_wp2_with fail
            refine (l4Next_any _ _ _ _ S _ _ (some (M1.up S j)) _ (h.below hB7) hBs7 (Or.inr ⟨j, by rw [hl.out]; exact hj, rfl, rfl⟩) hm60).mono ?_
            rintro e w8 ⟨⟨r9, rfl, hr9⟩, hb8⟩
            have HR9 : Hid (PlR S (if i + 1 < KL then some (M1.up (M1.kids S s) (i + 1)) else none) r9) := (by
              rw [← hNX.out (i + 1) (by omega)]
              show PlR S (M1.nx S s.id (some (M1.up (M1.kids S s) i)) m) r9
              rw [HKJ.out]; exact hr9 : _)
            have hB8 : Below B w w8 := hB7.trans (hb8.mono hBs7)
            have own8 := owns_below own7 hb8
            clear hr9 hb8 own7
            go_wp2_with fail
            go_roundg (KL - (i + 1))
            case measure => omega
            case rel => exact ⟨i + 1, q7, ov7, oc7, r9, rfl, by omega, rfl, rfl, hq7, HR9, own8, hB8⟩
          · have hik' : i = KL := by omega
            have hr7 : r6 = -1 := by
              have := hr6.out
              rw [if_neg hik] at this
              rcases this with ⟨e, _⟩ | ⟨j, _, _, e2⟩
              · exact e
              · cases e2
            subst hr7
            have HG : Hid (O ++ (s, D) :: M1.kidsTo S f s D i = O ++ M1.growF S (f + 1) (M1.up S a) D) := (by rw [hs.out, M1.growF_all, hKL.out, hik'] : _ = _)
            clear hr6 hik'
            go_wp2_with fail
            go_ret
            exact ⟨⟨O ++ (s, D) :: M1.kidsTo S f s D i, ⟨ov2, oc2, by rw [hq.out]; rfl, by rw [hq.out]; exact own6⟩, Or.inr ⟨HNF.out, HG.out⟩⟩, hB6⟩
end Go.Proofs.Ytdpeopmbboogaaa
