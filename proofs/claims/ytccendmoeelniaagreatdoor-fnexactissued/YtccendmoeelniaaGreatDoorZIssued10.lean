/-
  Texts of one proof, joined: OwnU.
-/
import Derived.Test.YtccendmoeelniaaGreatDoorZIssued07
import Derived.Test.YtccendmoeelniaaGreatDoorZIssued08
import Derived.Test.YtccendmoeelniaaGreatDoorZIssued09
import Derived.Deep.AppendLies
namespace Go.Proofs.YtccendmoeelniaaGreatDoor
open Go.ChangeShapes Go.WideShapes Go.ChangeAt Go.RowKit
set_option linter.unusedSimpArgs false
set_option linter.unusedVariables false
def ucL (us : List M1.Upd) : List Value := us.flatMap ucs

theorem ucL_snoc (us : List M1.Upd) (u : M1.Upd) : ucL (us ++ [u]) = ucL us ++ ucs u := by simp [ucL]

theorem ucs_len (u : M1.Upd) : (ucs u).length = 13 := rfl

theorem ucL_len : ∀ us : List M1.Upd, (ucL us).length = us.length * 13
  | [] => rfl
  | d :: r => by
    have := ucL_len r
    simp only [ucL, List.flatMap_cons, List.length_append, ucs_len, List.length_cons] at this ⊢
    omega

theorem ucL_get : ∀ (us : List M1.Upd) (o : Nat), o < us.length * 13 → (ucL us).getD o undef = ucell us o
  | [], o, h => by simp at h
  | d :: r, o, h => by
    have e0 : ucL (d :: r) = ucs d ++ ucL r := rfl
    by_cases hlt : o < 13
    · have e1 : (ucL (d :: r)).getD o undef = (ucs d).getD o undef := by
        rw [e0]; simp [List.getD, List.getElem?_append_left (show o < (ucs d).length by rw [ucs_len]; exact hlt)]
      rw [e1]
      unfold ucell
      rw [show o / 13 = 0 from by omega, show o % 13 = o from by omega]
      rfl
    · obtain ⟨q, rfl⟩ : ∃ q, o = 13 + q := ⟨o - 13, by omega⟩
      have ih := ucL_get r q (by simp at h; omega)
      have e1 : (ucL (d :: r)).getD (13 + q) undef = (ucL r).getD q undef := by
        rw [e0]; simp [List.getD, List.getElem?_append_right (show (ucs d).length ≤ 13 + q by rw [ucs_len]; omega), ucs_len]
      have e2 : ucell (d :: r) (13 + q) = ucell r q := by
        unfold ucell
        rw [show (13 + q) / 13 = q / 13 + 1 from by omega, show (13 + q) % 13 = q % 13 from by omega]
        rfl
      rw [e1, e2, ih]

def MU (w : World) (av : Option Addr) (n cap lo hi : Nat) (f : Nat → Value) : Prop :=
  n ≤ cap ∧ cap ≤ maxLen ∧ ((n = 0 ∧ av = none) ∨ ∃ g, av = some ⟨g, 0, none⟩ ∧ lo ≤ g ∧ g < hi ∧ RowAt w g (n * 13) f)

def MkU (av : Option Addr) (w w' : World) : Prop := (av = none → Below w.heap.size w w') ∧ ∀ g, av = some ⟨g, 0, none⟩ → Gr g w w'

theorem mku_none {w w' : World} (h : Below w.heap.size w w') : MkU none w w' := ⟨fun _ => h, fun _ e => by cases e⟩

theorem mku_some {w w' : World} {g : Nat} (h : Gr g w w') : MkU (some ⟨g, 0, none⟩) w w' := ⟨(fun e => by cases e), (fun g2 e => by injection e with e; injection e with e _ _; subst e; exact h)⟩

theorem MU.below {w w' : World} {av : Option Addr} {n cap lo hi : Nat} {f : Nat → Value} (h : MU w av n cap lo hi f) (hb : Below w.heap.size w w') : MU w' av n cap lo hi f :=
  ⟨h.1, h.2.1, h.2.2.imp id fun ⟨g, e, h1, h2, r⟩ => ⟨g, e, h1, h2, r.below hb⟩⟩

theorem MU.off {w w' : World} {av : Option Addr} {n cap lo hi g : Nat} {f : Nat → Value} (h : MU w av n cap lo hi f) (hg : Gr g w w') (hb : g < lo ∨ hi ≤ g) : MU w' av n cap lo hi f :=
  ⟨h.1, h.2.1, h.2.2.imp id fun ⟨k, e, h1, h2, r⟩ => ⟨k, e, h1, h2, r.gr hg (by omega)⟩⟩

theorem MU.mk {w w' : World} {av bv : Option Addr} {n cap lo hi m cm lo2 hi2 : Nat} {f f2 : Nat → Value} (h : MU w av n cap lo hi f) (h2 : MU w bv m cm lo2 hi2 f2) (hm : MkU bv w w') (hd : hi ≤ lo2 ∨ hi2 ≤ lo) : MU w' av n cap lo hi f := by
  rcases h2.2.2 with ⟨_, h0⟩ | ⟨g2, e2, h5, h6, _⟩
  · exact h.below (hm.1 h0)
  · exact h.off (hm.2 g2 e2) (by omega)

theorem MkU.below {w w' : World} {bv : Option Addr} {m cm lo2 hi2 B : Nat} {f2 : Nat → Value} (h2 : MU w bv m cm lo2 hi2 f2) (hm : MkU bv w w') (hB : B ≤ w.heap.size) (hlo : B ≤ lo2) : Below B w w' := by
  rcases h2.2.2 with ⟨_, h0⟩ | ⟨g2, e2, h5, h6, _⟩
  · exact (hm.1 h0).mono hB
  · exact gr_to (hm.2 g2 e2) hB (by omega)

theorem MU.upds {w : World} {av : Option Addr} {n cap lo hi : Nat} {us : List M1.Upd} (h : MU w av n cap lo hi (ucell us)) (hl : us.length = n) (ht : ∀ i, i < n → (M1.up us i).s.size ≤ maxLen) : IsUpds w av n cap us := by
  rcases h.2.2 with ⟨h0, _⟩ | ⟨g, rfl, _, _, r⟩
  · exact ⟨hl, h.1, h.2.1, ht, Or.inl h0⟩
  · exact isUpds_of_row hl h.1 h.2.1 ht r

theorem MU.of_owns {w : World} {base : Nat} {e : TypeId} {v : Value} {us : List M1.Upd} (h : w.ownsRow base e 13 v us.length (ucL us)) : ∃ av cap, v = .slice av us.length cap ∧ MU w av us.length cap base w.heap.size (ucell us) := by
  have h0 := h
  obtain ⟨h1, h2⟩ := h
  rcases h2 with ⟨rfl, h3⟩ | ⟨g, cap, cur, rfl, hg, hh, hn, hm, hs, ht⟩
  · exact ⟨none, 0, by rw [h3], by omega, by unfold maxLen; omega, Or.inl ⟨h3, rfl⟩⟩
  · have hr := (RowAt.of_owns h0).same fun o ho => ucL_get us o ho
    exact ⟨some ⟨g, 0, none⟩, cap, rfl, hn, hm, Or.inr ⟨g, rfl, hg, hr.lt, hr⟩⟩

theorem ownsU_nil (w : World) (base : Nat) (e : TypeId) : w.ownsRow base e 13 (.slice none 0 0) ([] : List M1.Upd).length (ucL []) := ⟨rfl, Or.inl ⟨rfl, rfl⟩⟩

theorem ownsU_empty (w : World) (e : TypeId) : (w.alloc (.cells #[] e)).ownsRow w.heap.size e 13 (.slice (some ⟨w.heap.size, 0, none⟩) 0 0) ([] : List M1.Upd).length (ucL []) := by
  refine ⟨rfl, Or.inr ⟨w.heap.size, 0, #[], rfl, Nat.le_refl _, ?_, Nat.le_refl _, by unfold maxLen; omega, rfl, rfl⟩⟩
  show (w.heap.push (.cells #[] e))[w.heap.size]? = _
  simp

theorem news13 (w : World) (x0 x1 x2 x3 x4 x5 x6 x7 x8 x9 x10 x11 x12 : Value) (t : TypeId) : ∀ j u, [x0, x1, x2, x3, x4, x5, x6, x7, x8, x9, x10, x11, x12][j]? = some u → (w.alloc (.cells #[x0, x1, x2, x3, x4, x5, x6, x7, x8, x9, x10, x11, x12] t)).cell? ((⟨w.heap.size, 0, none⟩ : Addr).add j) = some u := by
  intro j u hu
  match j, hu with
  | 0, hu => simp at hu; subst hu; simp [Addr.add]
  | 1, hu => simp at hu; subst hu; simp [Addr.add]
  | 2, hu => simp at hu; subst hu; simp [Addr.add]
  | 3, hu => simp at hu; subst hu; simp [Addr.add]
  | 4, hu => simp at hu; subst hu; simp [Addr.add]
  | 5, hu => simp at hu; subst hu; simp [Addr.add]
  | 6, hu => simp at hu; subst hu; simp [Addr.add]
  | 7, hu => simp at hu; subst hu; simp [Addr.add]
  | 8, hu => simp at hu; subst hu; simp [Addr.add]
  | 9, hu => simp at hu; subst hu; simp [Addr.add]
  | 10, hu => simp at hu; subst hu; simp [Addr.add]
  | 11, hu => simp at hu; subst hu; simp [Addr.add]
  | 12, hu => simp at hu; subst hu; simp [Addr.add]
  | j + 13, hu => simp at hu

theorem one13 (u : M1.Upd) : ∀ v ∈ ucs u, v.oneCell' = true := by
  intro v hv
  simp [ucs] at hv
  rcases hv with rfl | rfl | rfl | rfl | rfl | rfl | rfl | rfl | rfl | rfl | rfl | rfl | rfl <;> rfl

theorem markU_any (av : Option Addr) (n cap lo hi : Nat) (f : Nat → Value) (k : Int) (w : World) (h : MU w av n cap lo hi f) (hn : n ≤ 1048576) (hk : 0 ≤ k) (hk2 : k ≤ 100000000) :
    Calls Tryz.prog 38 #[.slice av n cap, .int .i64 k] w fun e w' => e = .returned (.int .i64 (k + 13 * n)) ∧ MU w' av n cap lo hi (mcell k) ∧ MkU av w w' := by
  obtain ⟨h1, h2, h3⟩ := h
  rcases h3 with ⟨rfl, rfl⟩ | ⟨g, rfl, hlo, hhi, hr⟩
  · unfold maxLen at h2
    go_enter Tryz.func38, Tryz.ntmps38
    go_wp2_with fail
    go_loopw [1, 5] (fun q i wr => i = .int .i64 0 ∧ q = .int .i64 k ∧ wr = w) (fun _ _ _ => 0)
    case atStart => exact ⟨rfl, rfl, rfl⟩
    case round =>
      obtain ⟨rfl, rfl, rfl⟩ := hrel
      go_wp2_with fail
      go_ret
      exact ⟨by simp, ⟨by omega, by unfold maxLen; omega, Or.inl ⟨rfl, rfl⟩⟩, mku_none (Below.refl _ _)⟩
  · refine (markU_some g n cap f k w hr h1 h2 hn hk hk2).mono ?_
    rintro e w' ⟨rfl, r', hG⟩
    exact ⟨rfl, ⟨h1, h2, Or.inr ⟨g, rfl, hlo, hhi, r'⟩⟩, mku_some hG⟩

set_option maxHeartbeats 8000000 in
set_option maxRecDepth 100000 in
theorem heldU_any (av : Option Addr) (n cap lo hi : Nat) (k : Int) (w : World) (h : MU w av n cap lo hi (mcell k)) (hn : n ≤ 1048576) (hk : 0 ≤ k) (hk2 : k ≤ 100000000) :
    Calls Tryz.prog 75 #[.slice av n cap, .int .i64 k] w fun e w' => e = .returned (.int .i64 (k + 13 * n)) ∧ Below w.heap.size w w' := by
  obtain ⟨h1, h2, h3⟩ := h
  unfold maxLen at h2
  go_enter Tryz.func75, Tryz.ntmps75
  go_wp2_with fail
  go_loopw [1, 5] (fun q i wr => ∃ (p : Nat) (x : Int), p ≤ n ∧ i = .int .i64 p ∧ x = k + 13 * p ∧ q = .int .i64 x ∧ Below w.heap.size w wr) (fun _ i _ => n - (intOf i).toNat)
  case atStart => exact ⟨0, k, Nat.zero_le _, rfl, by omega, rfl, Below.refl _ _⟩
  case round =>
    obtain ⟨p, x, hp, rfl, hx, rfl, hB⟩ := hrel
    by_cases hlt : p < n
    · rcases h3 with ⟨h0, _⟩ | ⟨g, rfl, hlo, hhi, hr⟩
      · omega
      have hrow := hr.below hB
      have hgl := hrow.lt
      have i0 : (0 : Int) ≤ (p : Int) := by omega
      have i1 : (p : Int) < (n : Int) := by omega
      have d0 : wr.cell? ⟨g, p * 13, none⟩ = some (.int .i64 (k + 13 * (p : Int))) := by rw [hrow.cell (o := p * 13) (by omega), mcell_int k (p * 13) (by omega)]; exact congrArg (fun z => some (Value.int .i64 z)) (by omega)
      have d1 : wr.cell? ⟨g, p * 13 + 1, none⟩ = some (.int .i64 (k + 13 * (p : Int) + 1)) := by rw [hrow.cell (o := p * 13 + 1) (by omega), mcell_int k (p * 13 + 1) (by omega)]; exact congrArg (fun z => some (Value.int .i64 z)) (by omega)
      have d2 : wr.cell? ⟨g, p * 13 + 2, none⟩ = some (.int .i64 (k + 13 * (p : Int) + 1 + 1)) := by rw [hrow.cell (o := p * 13 + 2) (by omega), mcell_int k (p * 13 + 2) (by omega)]; exact congrArg (fun z => some (Value.int .i64 z)) (by omega)
      have d3 : wr.cell? ⟨g, p * 13 + 3, none⟩ = some (.int .i64 (k + 13 * (p : Int) + 1 + 1 + 1)) := by rw [hrow.cell (o := p * 13 + 3) (by omega), mcell_int k (p * 13 + 3) (by omega)]; exact congrArg (fun z => some (Value.int .i64 z)) (by omega)
      have d4 : wr.cell? ⟨g, p * 13 + 4, none⟩ = some (.int .i64 (k + 13 * (p : Int) + 1 + 1 + 1 + 1)) := by rw [hrow.cell (o := p * 13 + 4) (by omega), mcell_int k (p * 13 + 4) (by omega)]; exact congrArg (fun z => some (Value.int .i64 z)) (by omega)
      have d5 : wr.cell? ⟨g, p * 13 + 5, none⟩ = some (.int .i64 (k + 13 * (p : Int) + 1 + 1 + 1 + 1 + 1)) := by rw [hrow.cell (o := p * 13 + 5) (by omega), mcell_int k (p * 13 + 5) (by omega)]; exact congrArg (fun z => some (Value.int .i64 z)) (by omega)
      have d6 : wr.cell? ⟨g, p * 13 + 6, none⟩ = some (.int .i64 (k + 13 * (p : Int) + 1 + 1 + 1 + 1 + 1 + 1)) := by rw [hrow.cell (o := p * 13 + 6) (by omega), mcell_int k (p * 13 + 6) (by omega)]; exact congrArg (fun z => some (Value.int .i64 z)) (by omega)
      have d7 : wr.cell? ⟨g, p * 13 + 7, none⟩ = some (.int .i64 (k + 13 * (p : Int) + 1 + 1 + 1 + 1 + 1 + 1 + 1)) := by rw [hrow.cell (o := p * 13 + 7) (by omega), mcell_int k (p * 13 + 7) (by omega)]; exact congrArg (fun z => some (Value.int .i64 z)) (by omega)
      have d8 : wr.cell? ⟨g, p * 13 + 8, none⟩ = some (.int .i64 (k + 13 * (p : Int) + 1 + 1 + 1 + 1 + 1 + 1 + 1 + 1)) := by rw [hrow.cell (o := p * 13 + 8) (by omega), mcell_int k (p * 13 + 8) (by omega)]; exact congrArg (fun z => some (Value.int .i64 z)) (by omega)
      have d9 : wr.cell? ⟨g, p * 13 + 9, none⟩ = some (.string (M1.mtext (k + 13 * (p : Int) + 1 + 1 + 1 + 1 + 1 + 1 + 1 + 1 + 1))) := by rw [hrow.cell (o := p * 13 + 9) (by omega), mcell_str k (p * 13 + 9) (by omega)]; exact congrArg (fun z => some (Value.string (M1.mtext z))) (by omega)
      have d10 : wr.cell? ⟨g, p * 13 + 10, none⟩ = some (.int .i64 (k + 13 * (p : Int) + 1 + 1 + 1 + 1 + 1 + 1 + 1 + 1 + 1 + 1)) := by rw [hrow.cell (o := p * 13 + 10) (by omega), mcell_int k (p * 13 + 10) (by omega)]; exact congrArg (fun z => some (Value.int .i64 z)) (by omega)
      have d11 : wr.cell? ⟨g, p * 13 + 11, none⟩ = some (.int .i64 (k + 13 * (p : Int) + 1 + 1 + 1 + 1 + 1 + 1 + 1 + 1 + 1 + 1 + 1)) := by rw [hrow.cell (o := p * 13 + 11) (by omega), mcell_int k (p * 13 + 11) (by omega)]; exact congrArg (fun z => some (Value.int .i64 z)) (by omega)
      have d12 : wr.cell? ⟨g, p * 13 + 12, none⟩ = some (.int .i64 (k + 13 * (p : Int) + 1 + 1 + 1 + 1 + 1 + 1 + 1 + 1 + 1 + 1 + 1 + 1)) := by rw [hrow.cell (o := p * 13 + 12) (by omega), mcell_int k (p * 13 + 12) (by omega)]; exact congrArg (fun z => some (Value.int .i64 z)) (by omega)
      go_wp2_with fail
      refine wp_region_held_drew (S := fun w' => Kp wr w') (by kernel_rfl) ?_ (fun hHeld => ?_)
      · exact kp_zero _
      refine wpAnyH_take (i := 0) (v := ?_) rfl (by kernel_rfl) (by kernel_rfl) (by kernel_rfl) (fun _ _ _ h => h) (Or.inl ⟨by rfl, ?_⟩) hHeld ?_
      rotate_left
      · (intro w hSw; (try dsimp only at hSw); go_simp; try (with_reducible rfl))
      (try simp only [Act.put, aZ, bZ, cZ, dZ, eZ, fZ])
      refine wpAnyH_take (i := 1) (v := ?_) rfl (by kernel_rfl) (by kernel_rfl) (by kernel_rfl) (fun _ _ _ h => h) (Or.inl ⟨by rfl, ?_⟩) hHeld ?_
      rotate_left
      · (intro w hSw; (try dsimp only at hSw); go_simp; try (with_reducible rfl))
      (try simp only [Act.put, aZ, bZ, cZ, dZ, eZ, fZ])
      refine wpAnyH_take (i := 2) (v := ?_) rfl (by kernel_rfl) (by kernel_rfl) (by kernel_rfl) (fun _ _ _ h => h) (Or.inl ⟨by rfl, ?_⟩) hHeld ?_
      rotate_left
      · (intro w hSw; (try dsimp only at hSw); go_simp; try (with_reducible rfl))
      (try simp only [Act.put, aZ, bZ, cZ, dZ, eZ, fZ])
      refine wpAnyH_take (i := 3) (v := ?_) rfl (by kernel_rfl) (by kernel_rfl) (by kernel_rfl) (fun _ _ _ h => h) (Or.inl ⟨by rfl, ?_⟩) hHeld ?_
      rotate_left
      · (intro w hSw; (try dsimp only at hSw); go_simp; try (with_reducible rfl))
      (try simp only [Act.put, aZ, bZ, cZ, dZ, eZ, fZ])
      refine wpAnyH_take (i := 4) (v := ?_) rfl (by kernel_rfl) (by kernel_rfl) (by kernel_rfl) (fun _ _ _ h => h) (Or.inl ⟨by rfl, ?_⟩) hHeld ?_
      rotate_left
      · (intro w hSw; (try dsimp only at hSw); go_simp; try (with_reducible rfl))
      (try simp only [Act.put, aZ, bZ, cZ, dZ, eZ, fZ])
      refine wpAnyH_take (i := 5) (v := ?_) rfl (by kernel_rfl) (by kernel_rfl) (by kernel_rfl) (fun _ _ _ h => h) (Or.inl ⟨by rfl, ?_⟩) hHeld ?_
      rotate_left
      · (intro w hSw; (try dsimp only at hSw); go_simp; try (with_reducible rfl))
      (try simp only [Act.put, aZ, bZ, cZ, dZ, eZ, fZ])
      refine wpAnyH_take (i := 6) (v := ?_) rfl (by kernel_rfl) (by kernel_rfl) (by kernel_rfl) (fun _ _ _ h => h) (Or.inl ⟨by rfl, ?_⟩) hHeld ?_
      rotate_left
      · (intro w hSw; (try dsimp only at hSw); go_simp; try (with_reducible rfl))
      (try simp only [Act.put, aZ, bZ, cZ, dZ, eZ, fZ])
      refine wpAnyH_ready (rs := [7]) (by kernel_rfl) (by simp) ?_
      refine AllReadyH.cons (o := _) rfl (fun K hK => ?_) AllReadyH.nil
      go_simp
      (refine (markText_any _ _ (by omega) (by omega)).mono ?_; rintro e w' ⟨rfl, hb⟩; go_wp2_with fail)
      refine hK.out _ _ ?_ (fun hHeld2 => ?_)
      · exact kp_step hHeld hb
      clear hK K hHeld
      have hHeld := hHeld2
      clear hHeld2
      (try simp only [Act.put, aZ, bZ, cZ, dZ, eZ, fZ])
      refine wpAnyH_take (i := 8) (v := ?_) rfl (by kernel_rfl) (by kernel_rfl) (by kernel_rfl) (fun _ _ _ h => h) (Or.inl ⟨by rfl, ?_⟩) hHeld ?_
      rotate_left
      · (intro w hSw; (try dsimp only at hSw); go_simp; try (with_reducible rfl))
      (try simp only [Act.put, aZ, bZ, cZ, dZ, eZ, fZ])
      refine wpAnyH_done (by kernel_rfl) ?_ _
      have hK1 := hHeld
      clear hHeld
      have hK2 := hK1.2
      have hB2 := hB.trans (hK1.1.mono hB.size)
      go_wp2_with fail
      exact ⟨⟨p + 1, _, by omega, by go_num, by omega, rfl, hB2⟩, by simp [intOf]; omega⟩
    · have hpn : p = n := by omega
      go_wp2_with fail
      go_ret
      exact ⟨by rw [hx, hpn]; rfl, hB⟩

end Go.Proofs.YtccendmoeelniaaGreatDoor
