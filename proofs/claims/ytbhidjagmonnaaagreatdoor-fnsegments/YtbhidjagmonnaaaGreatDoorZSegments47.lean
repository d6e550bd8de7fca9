/-
  Texts of one proof, joined: Ht1, Bytes, Ht2, Join, VecDraw.
-/
import Derived.Test.YtbhidjagmonnaaaGreatDoorZSegments44
import Derived.Test.YtbhidjagmonnaaaGreatDoorZSegments46
import Derived.Test.YtbhidjagmonnaaaGreatDoorZSegments04
import Derived.Test.YtbhidjagmonnaaaGreatDoorZSegments17
import Derived.Test.YtbhidjagmonnaaaGreatDoorZSegments31
import Derived.Test.YtbhidjagmonnaaaGreatDoorZSegments36
import Derived.Test.YtbhidjagmonnaaaGreatDoorZSegments18
namespace Go.Proofs.YtbhidjagmonnaaaGreatDoor
open Go.ChangeShapes Go.WideShapes Go.ChangeAt Go.RowKit
set_option linter.unusedSimpArgs false
set_option linter.unusedVariables false

def HtW (w w' : World) (e : Ending) (g : Nat) (av : Option Addr) (len cap n : Nat) : Prop := ∃ t : ByteArray, e = .returned (.string t) ∧ t.size ≤ n + 1 ∧ Rdr w' g av len cap ∧ Gr g w w'

set_option maxHeartbeats 8000000 in
set_option maxRecDepth 100000 in
theorem hurt_any (g : Nat) (av : Option Addr) (len cap : Nat) (s : ByteArray) (w : World) (h : Rdr w g av len cap) (hs : s.size ≤ 100000) :
    Calls Tryz.prog 33 #[.pointer (some ⟨g, 0, none⟩), .string s] w fun e w' => HtW w w' e g av len cap s.size := by
  have hgl := h.lt
  go_enter Tryz.func33, Tryz.ntmps33
  go_wp2_with fail
  refine (below_any g av len cap 6 _ h (by omega) (by omega)).mono ?_
  rintro e w1 ⟨x, rfl, x0, x6, R1, G1⟩
  have hl1 := R1.lt
  by_cases e1 : x = 1
  · subst e1
    go_wp2_with fail
    refine (below_any g av len cap _ _ R1 (by omega) (by omega)).mono ?_
    rintro e w2 ⟨y, rfl, y0, y6, R2, G2⟩
    obtain ⟨k, rfl⟩ : ∃ k : Nat, y = (k : Int) := ⟨y.toNat, by omega⟩
    have hk : k ≤ s.size := by omega
    go_wp2_with fail
    go_ret
    exact ⟨_, rfl, by rw [ByteArray.size_extract]; omega, R2, gr_trans G1 G2⟩
  by_cases e2 : x = 2
  · subst e2
    by_cases hs0 : s.size = 0
    · go_wp2_with fail
      go_ret
      exact ⟨s, rfl, by omega, R1, G1⟩
    · go_wp2_with fail
      refine (below_any g av len cap _ _ R1 (by omega) (by omega)).mono ?_
      rintro e w2 ⟨y, rfl, y0, y6, R2, G2⟩
      obtain ⟨k, rfl⟩ : ∃ k : Nat, y = (k : Int) := ⟨y.toNat, by omega⟩
      have hk : k < s.size := by omega
      have hwr : IntKind.i64.wrap ((k : Int) + 1) = (k : Int) + 1 := IntWalk.i64_in _ (by omega)
      go_upto_region 7 with fail
      refine wp_region_held_drew (S := fun w' => Rdr w' g av len cap ∧ Gr g w w') (by kernel_rfl) ?_ (fun hHeld => ?_)
      · exact ⟨R2.below (Below.refl _ _).drew, gr_trans (gr_trans G1 G2) (gr_below (Below.refl _ _).drew)⟩
      refine wpAnyH_take (i := 0) (v := ?_) rfl (by kernel_rfl) (by kernel_rfl) (by kernel_rfl) (fun _ _ _ h => h) (Or.inl ⟨by rfl, ?_⟩) hHeld ?_
      rotate_left
      · (intro w hSw; (try dsimp only at hSw); go_simp; try (with_reducible rfl))
      (try simp only [Act.put, aZ, bZ, cZ, dZ, eZ, fZ])
      refine wpAnyH_take (i := 1) (v := ?_) rfl (by kernel_rfl) (by kernel_rfl) (by kernel_rfl) (fun _ _ _ h => h) (Or.inl ⟨by rfl, ?_⟩) hHeld ?_
      rotate_left
      · (intro w hSw; (try dsimp only at hSw); go_simp; try (with_reducible rfl))
      (try simp only [Act.put, aZ, bZ, cZ, dZ, eZ, fZ])
      refine wpAnyH_take (i := 2) (v := .string (s.extract 0 k)) rfl (by kernel_rfl) (by kernel_rfl) (by kernel_rfl) (fun _ _ _ h => h) (Or.inl ⟨by rfl, ?_⟩) hHeld ?_
      · (intro w hSw; (try dsimp only at hSw); go_simp; (intro hx; omega))
      (try simp only [Act.put, aZ, bZ, cZ, dZ, eZ, fZ])
      refine wpAnyH_take (i := 4) (v := ?_) rfl (by kernel_rfl) (by kernel_rfl) (by kernel_rfl) (fun _ _ _ h => h) (Or.inl ⟨by rfl, ?_⟩) hHeld ?_
      rotate_left
      · (intro w hSw; (try dsimp only at hSw); go_simp; try (with_reducible rfl))
      (try simp only [Act.put, aZ, bZ, cZ, dZ, eZ, fZ])
      refine wpAnyH_take (i := 9) (v := ?_) rfl (by kernel_rfl) (by kernel_rfl) (by kernel_rfl) (fun _ _ _ h => h) (Or.inl ⟨by rfl, ?_⟩) hHeld ?_
      rotate_left
      · (intro w hSw; (try dsimp only at hSw); go_simp; try (with_reducible rfl))
      (try simp only [Act.put, aZ, bZ, cZ, dZ, eZ, fZ])
      refine wpAnyH_take (i := 10) (v := ?_) rfl (by kernel_rfl) (by kernel_rfl) (by kernel_rfl) (fun _ _ _ h => h) (Or.inl ⟨by rfl, ?_⟩) hHeld ?_
      rotate_left
      · (intro w hSw; (try dsimp only at hSw); go_simp; try (with_reducible rfl))
      (try simp only [Act.put, aZ, bZ, cZ, dZ, eZ, fZ])
      refine wpAnyH_take (i := 11) (v := .int .i64 ((k + 1 : Nat) : Int)) rfl (by kernel_rfl) (by kernel_rfl) (by kernel_rfl) (fun _ _ _ h => h) (Or.inl ⟨by rfl, ?_⟩) hHeld ?_
      · (intro w hSw; (try dsimp only at hSw); go_simp; (first | done | (rw [hwr]; done) | (simp [hwr]; done) | skip))
      (try simp only [Act.put, aZ, bZ, cZ, dZ, eZ, fZ])
      refine wpAnyH_take (i := 12) (v := .string (s.extract (k + 1) s.size)) rfl (by kernel_rfl) (by kernel_rfl) (by kernel_rfl) (fun _ _ _ h => h) (Or.inl ⟨by rfl, ?_⟩) hHeld ?_
      · (intro w hSw; (try dsimp only at hSw); go_simp; (first | done | (intro hx; omega) | skip))
      (try simp only [Act.put, aZ, bZ, cZ, dZ, eZ, fZ])
      refine wpAnyH_ready (rs := [3, 5]) (by kernel_rfl) (by simp) ?_
      refine AllReadyH.cons (o := _) rfl (fun K hK => ?_) (AllReadyH.cons (o := _) rfl (fun K hK => ?_) AllReadyH.nil)
      · go_simp
        refine hK.out _ _ ?_ (fun hHeld2 => ?_)
        · exact ⟨hHeld.1.below ((Below.refl _ _).alloc (Nat.le_refl _) _), gr_alloc hHeld.2 _⟩
        clear hK K hHeld
        have hHeld := hHeld2
        clear hHeld2
        (try simp only [Act.put, aZ, bZ, cZ, dZ, eZ, fZ])
        refine wpAnyH_ready (rs := [5]) (by kernel_rfl) (by simp) ?_
        refine AllReadyH.cons (o := _) rfl (fun K hK => ?_) AllReadyH.nil
        go_simp
        (refine (below_any g av len cap 5 _ hHeld.1 (by omega) (by omega)).mono ?_; rintro e w8 ⟨z, rfl, z0, z5, R8, G8⟩; go_wp2_with fail)
        refine hK.out _ _ ?_ (fun hHeld2 => ?_)
        · exact ⟨R8, gr_trans hHeld.2 G8⟩
        clear hK K hHeld
        have hHeld := hHeld2
        clear hHeld2
        (try simp only [Act.put, aZ, bZ, cZ, dZ, eZ, fZ])
        have hl2 := R2.lt
        obtain ⟨j, rfl⟩ : ∃ j : Nat, z = (j : Int) := ⟨z.toNat, by omega⟩
        have hj : j < 5 := by omega
        have hze1 := (s.extract 0 k).size
        have hze : (s.extract 0 k).size = k := by rw [ByteArray.size_extract]; omega
        have hzf : (s.extract (k + 1) s.size).size = s.size - (k + 1) := by rw [ByteArray.size_extract]; omega
        obtain ⟨t, ht, htz⟩ : ∃ t : ByteArray, w8.cell? ⟨w2.heap.size, j, none⟩ = some (.string t) ∧ t.size = 1 := by
          have hrow := ((show RowAt (w2.alloc (.cells #[.string ⟨#[48]⟩, .string ⟨#[49]⟩, .string ⟨#[32]⟩, .string ⟨#[120]⟩, .string ⟨#[57]⟩] 9)).drew w2.heap.size 5 (fun o => (#[.string ⟨#[48]⟩, .string ⟨#[49]⟩, .string ⟨#[32]⟩, .string ⟨#[120]⟩, .string ⟨#[57]⟩] : Array Value).getD o undef) from (RowAt.new w2 _ _).below (Below.refl _ _).drew).gr G8 (by omega))
          match j, hj with
          | 0, _ => exact ⟨⟨#[48]⟩, hrow.cell (o := 0) (by omega), rfl⟩
          | 1, _ => exact ⟨⟨#[49]⟩, hrow.cell (o := 1) (by omega), rfl⟩
          | 2, _ => exact ⟨⟨#[32]⟩, hrow.cell (o := 2) (by omega), rfl⟩
          | 3, _ => exact ⟨⟨#[120]⟩, hrow.cell (o := 3) (by omega), rfl⟩
          | 4, _ => exact ⟨⟨#[57]⟩, hrow.cell (o := 4) (by omega), rfl⟩
        have hjz : ((j : Nat) : Int) < 5 := by omega
        have hjz0 : (0 : Int) ≤ (j : Int) := by omega
        refine wpAnyH_ready (rs := [6]) (by kernel_rfl) (by simp) ?_
        refine AllReadyH.cons (o := _) rfl (fun K hK => ?_) AllReadyH.nil
        go_simp
        skip
        refine hK.out _ _ ?_ (fun hHeld2 => ?_)
        · exact hHeld
        clear hK K hHeld
        have hHeld := hHeld2
        clear hHeld2
        (try simp only [Act.put, aZ, bZ, cZ, dZ, eZ, fZ])
        refine wpAnyH_ready (rs := [7]) (by kernel_rfl) (by simp) ?_
        refine AllReadyH.cons (o := _) rfl (fun K hK => ?_) AllReadyH.nil
        go_simp
        skip
        refine hK.out _ _ ?_ (fun hHeld2 => ?_)
        · exact hHeld
        clear hK K hHeld
        have hHeld := hHeld2
        clear hHeld2
        (try simp only [Act.put, aZ, bZ, cZ, dZ, eZ, fZ])
        refine wpAnyH_take (i := 8) (v := .string (s.extract 0 k ++ t)) rfl (by kernel_rfl) (by kernel_rfl) (by kernel_rfl) (fun _ _ _ h => h) (Or.inl ⟨by rfl, ?_⟩) hHeld ?_
        · (intro w hSw; (try dsimp only at hSw); go_simp; (first | done | omega | (intro hx; omega) | skip))
        (try simp only [Act.put, aZ, bZ, cZ, dZ, eZ, fZ])
        refine wpAnyH_take (i := 13) (v := .string (s.extract 0 k ++ t ++ s.extract (k + 1) s.size)) rfl (by kernel_rfl) (by kernel_rfl) (by kernel_rfl) (fun _ _ _ h => h) (Or.inl ⟨by rfl, ?_⟩) hHeld ?_
        · (intro w hSw; (try dsimp only at hSw); go_simp; (first | done | omega | (intro hx; omega) | skip))
        (try simp only [Act.put, aZ, bZ, cZ, dZ, eZ, fZ])
        refine wpAnyH_take (i := 14) (v := ?_) rfl (by kernel_rfl) (by kernel_rfl) (by kernel_rfl) (fun _ _ _ h => h) (Or.inl ⟨by rfl, ?_⟩) hHeld ?_
        rotate_left
        · (intro w hSw; (try dsimp only at hSw); go_simp; try (with_reducible rfl))
        (try simp only [Act.put, aZ, bZ, cZ, dZ, eZ, fZ])
        refine wpAnyH_done (by kernel_rfl) ?_ _
        go_wp2_with fail
        go_ret
        exact ⟨_, rfl, by rw [ByteArray.size_append, ByteArray.size_append]; omega, hHeld.1, hHeld.2⟩
      · go_simp
        refine (below_any g av len cap 5 _ hHeld.1 (by omega) (by omega)).mono ?_
        rintro e w8 ⟨z, rfl, z0, z5, R8, G8⟩
        go_wp2_with fail
        refine hK.out _ _ ?_ (fun hHeld2 => ?_)
        · exact ⟨R8, gr_trans hHeld.2 G8⟩
        clear hK K hHeld
        have hHeld := hHeld2
        clear hHeld2
        (try simp only [Act.put, aZ, bZ, cZ, dZ, eZ, fZ])
        refine wpAnyH_ready (rs := [3]) (by kernel_rfl) (by simp) ?_
        refine AllReadyH.cons (o := _) rfl (fun K hK => ?_) AllReadyH.nil
        go_simp
        skip
        refine hK.out _ _ ?_ (fun hHeld2 => ?_)
        · exact ⟨hHeld.1.below ((Below.refl _ _).alloc (Nat.le_refl _) _), gr_alloc hHeld.2 _⟩
        clear hK K hHeld
        have hHeld := hHeld2
        clear hHeld2
        (try simp only [Act.put, aZ, bZ, cZ, dZ, eZ, fZ])
        obtain ⟨j, rfl⟩ : ∃ j : Nat, z = (j : Int) := ⟨z.toNat, by omega⟩
        have hj : j < 5 := by omega
        have hze1 := (s.extract 0 k).size
        have hze : (s.extract 0 k).size = k := by rw [ByteArray.size_extract]; omega
        have hzf : (s.extract (k + 1) s.size).size = s.size - (k + 1) := by rw [ByteArray.size_extract]; omega
        obtain ⟨t, ht, htz⟩ : ∃ t : ByteArray, (w8.alloc (.cells #[.string ⟨#[48]⟩, .string ⟨#[49]⟩, .string ⟨#[32]⟩, .string ⟨#[120]⟩, .string ⟨#[57]⟩] 9)).cell? ⟨w8.heap.size, j, none⟩ = some (.string t) ∧ t.size = 1 := by
          have hrow := (show RowAt (w8.alloc (.cells #[.string ⟨#[48]⟩, .string ⟨#[49]⟩, .string ⟨#[32]⟩, .string ⟨#[120]⟩, .string ⟨#[57]⟩] 9)) w8.heap.size 5 (fun o => (#[.string ⟨#[48]⟩, .string ⟨#[49]⟩, .string ⟨#[32]⟩, .string ⟨#[120]⟩, .string ⟨#[57]⟩] : Array Value).getD o undef) from RowAt.new w8 _ _)
          match j, hj with
          | 0, _ => exact ⟨⟨#[48]⟩, hrow.cell (o := 0) (by omega), rfl⟩
          | 1, _ => exact ⟨⟨#[49]⟩, hrow.cell (o := 1) (by omega), rfl⟩
          | 2, _ => exact ⟨⟨#[32]⟩, hrow.cell (o := 2) (by omega), rfl⟩
          | 3, _ => exact ⟨⟨#[120]⟩, hrow.cell (o := 3) (by omega), rfl⟩
          | 4, _ => exact ⟨⟨#[57]⟩, hrow.cell (o := 4) (by omega), rfl⟩
        have hjz : ((j : Nat) : Int) < 5 := by omega
        have hjz0 : (0 : Int) ≤ (j : Int) := by omega
        refine wpAnyH_ready (rs := [6]) (by kernel_rfl) (by simp) ?_
        refine AllReadyH.cons (o := _) rfl (fun K hK => ?_) AllReadyH.nil
        go_simp
        skip
        refine hK.out _ _ ?_ (fun hHeld2 => ?_)
        · exact hHeld
        clear hK K hHeld
        have hHeld := hHeld2
        clear hHeld2
        (try simp only [Act.put, aZ, bZ, cZ, dZ, eZ, fZ])
        refine wpAnyH_ready (rs := [7]) (by kernel_rfl) (by simp) ?_
        refine AllReadyH.cons (o := _) rfl (fun K hK => ?_) AllReadyH.nil
        go_simp
        skip
        refine hK.out _ _ ?_ (fun hHeld2 => ?_)
        · exact hHeld
        clear hK K hHeld
        have hHeld := hHeld2
        clear hHeld2
        (try simp only [Act.put, aZ, bZ, cZ, dZ, eZ, fZ])
        refine wpAnyH_take (i := 8) (v := .string (s.extract 0 k ++ t)) rfl (by kernel_rfl) (by kernel_rfl) (by kernel_rfl) (fun _ _ _ h => h) (Or.inl ⟨by rfl, ?_⟩) hHeld ?_
        · (intro w hSw; (try dsimp only at hSw); go_simp; (first | done | omega | (intro hx; omega) | skip))
        (try simp only [Act.put, aZ, bZ, cZ, dZ, eZ, fZ])
        refine wpAnyH_take (i := 13) (v := .string (s.extract 0 k ++ t ++ s.extract (k + 1) s.size)) rfl (by kernel_rfl) (by kernel_rfl) (by kernel_rfl) (fun _ _ _ h => h) (Or.inl ⟨by rfl, ?_⟩) hHeld ?_
        · (intro w hSw; (try dsimp only at hSw); go_simp; (first | done | omega | (intro hx; omega) | skip))
        (try simp only [Act.put, aZ, bZ, cZ, dZ, eZ, fZ])
        refine wpAnyH_take (i := 14) (v := ?_) rfl (by kernel_rfl) (by kernel_rfl) (by kernel_rfl) (fun _ _ _ h => h) (Or.inl ⟨by rfl, ?_⟩) hHeld ?_
        rotate_left
        · (intro w hSw; (try dsimp only at hSw); go_simp; try (with_reducible rfl))
        (try simp only [Act.put, aZ, bZ, cZ, dZ, eZ, fZ])
        refine wpAnyH_done (by kernel_rfl) ?_ _
        go_wp2_with fail
        go_ret
        exact ⟨_, rfl, by rw [ByteArray.size_append, ByteArray.size_append]; omega, hHeld.1, hHeld.2⟩
  by_cases e3 : x = 3
  · subst e3
    go_wp2_with fail
    refine (below_any g av len cap 3 _ (R1.below ((Below.refl _ _).alloc (Nat.le_refl _) _)) (by omega) (by omega)).mono ?_
    rintro e w2 ⟨y, rfl, y0, y6, R2, G2⟩
    have hl2 := R2.lt
    obtain ⟨j, rfl⟩ : ∃ j : Nat, y = (j : Int) := ⟨y.toNat, by omega⟩
    have hj : j < 3 := by omega
    obtain ⟨t, ht, htz⟩ : ∃ t : ByteArray, w2.cell? ⟨w1.heap.size, j, none⟩ = some (.string t) ∧ t.size = 1 := by
      have hrow := (show RowAt (w1.alloc (.cells #[.string ⟨#[32]⟩, .string ⟨#[48]⟩, .string ⟨#[120]⟩] 9)) w1.heap.size 3 (fun o => (#[.string ⟨#[32]⟩, .string ⟨#[48]⟩, .string ⟨#[120]⟩] : Array Value).getD o undef) from RowAt.new w1 _ _).gr G2 (by omega)
      match j, hj with
      | 0, _ => exact ⟨⟨#[32]⟩, hrow.cell (o := 0) (by omega), rfl⟩
      | 1, _ => exact ⟨⟨#[48]⟩, hrow.cell (o := 1) (by omega), rfl⟩
      | 2, _ => exact ⟨⟨#[120]⟩, hrow.cell (o := 2) (by omega), rfl⟩
    have hjz : ((j : Nat) : Int) < 3 := by omega
    go_wp2_with fail
    go_ret
    exact ⟨_, rfl, by rw [ByteArray.size_append]; omega, R2, gr_trans (gr_alloc G1 _) G2⟩
  · go_wp2_with fail
    go_ret
    exact ⟨s, rfl, by omega, R1, G1⟩
end Go.Proofs.YtbhidjagmonnaaaGreatDoor

namespace Go.Proofs.YtbhidjagmonnaaaGreatDoor
open Go.ChangeShapes Go.WideShapes Go.ChangeAt Go.RowKit
set_option maxRecDepth 100000

/-- A slice of bytes. -/
structure IsBytes (w : World) (av : Option Addr) (len cap : Nat) : Prop where
  hc : len ≤ cap
  hm : cap ≤ maxLen
  lies : len = 0 ∨ ∃ b off, av = some ⟨b, off, none⟩ ∧ b < w.heap.size ∧ ∀ i, i < len → ∃ z, w.cell? ⟨b, off + i, none⟩ = some (.int .u8 z) ∧ 0 ≤ z ∧ z ≤ 255

theorem IsBytes.below {w w' : World} {av : Option Addr} {len cap : Nat} (h : IsBytes w av len cap) {B : Nat} (hB : w.heap.size ≤ B) (hb : Below B w w') : IsBytes w' av len cap :=
  ⟨h.hc, h.hm, h.lies.imp id fun ⟨b, off, e, hlt, hz⟩ => ⟨b, off, e, Nat.lt_of_lt_of_le hlt hb.size, fun i hi => let ⟨z, h2, h3⟩ := hz i hi; ⟨z, (hb.cell (p := ⟨b, off + i, none⟩) (by show b < B; omega)).trans h2, h3⟩⟩⟩

theorem open_bytes {H : Type} {enc : TypeId × Value → H} {W : World} {fuel len cap : Nat} {a : Option Addr} {x : DataW H × List MemPlace}
    (hf : DataW.trod enc Tryz.prog W 0 (fun _ => true) true fuel 22 (Value.slice a len cap).cells.toList = some x) : IsBytes W a len cap := by
  rcases open_ints Tryz.underlying22 Tryz.underlying5 (by kernel_rfl) hf with ⟨hcs, _⟩ | ⟨y, l, c, zs, hcs, _, hl, hm, hz, _, hcell, hwz⟩
  · simp [Value.cells] at hcs
    obtain ⟨rfl, rfl, rfl⟩ := hcs
    exact ⟨Nat.le_refl _, Nat.zero_le _, Or.inl rfl⟩
  · simp [Value.cells] at hcs
    obtain ⟨rfl, rfl, rfl⟩ := hcs
    have hz' : zs.length = cap := by simpa using hz
    refine ⟨hl, hm, ?_⟩
    rcases Nat.eq_zero_or_pos len with h0 | h0
    · exact Or.inl h0
    · obtain ⟨b, off, rfl, hc⟩ := ints_at hcell (by omega)
      refine Or.inr ⟨b, off, rfl, World.block_lt_of_cell? W _ (hc 0 (by omega)), fun i hi => ⟨zs.getD i 0, hc i (by omega), ?_⟩⟩
      have hw := bounds_u8 (hwz (zs.getD i 0) (by simp [List.getD, show i < zs.length from by omega]))
      exact hw

theorem l1Open_any (av : Option Addr) (len cap : Nat) (w : World) (h : IsBytes w av len cap) :
    Calls Tryz.prog 22 #[.slice av len cap] w fun e w' => e = .returned (.pointer (some ⟨w.heap.size, 0, none⟩)) ∧ Rdr w' w.heap.size av len cap ∧ Below w.heap.size w w' := by
  go_enter Tryz.func22, Tryz.ntmps22
  go_wp2
  go_ret
  have hr := RowAt.new w #[.slice av len cap, .int .i64 0] 68
  refine ⟨rfl, ⟨by simp, hr.cell (o := 0) (by simp), ⟨0, Nat.zero_le _, hr.cell (o := 1) (by simp)⟩, hr.free (o := 0) (by simp), hr.free (o := 1) (by simp), h.hc, h.hm, ?_⟩, (Below.refl _ _).alloc (Nat.le_refl _) _⟩
  have hb : Below w.heap.size w (w.alloc (.cells #[.slice av len cap, .int .i64 0] 68)) := (Below.refl _ _).alloc (Nat.le_refl _) _
  exact h.lies.imp id fun ⟨b, off, e, hlt, hz⟩ => ⟨b, off, e, by simp; omega, by omega, fun i hi => let ⟨z, h2, h3⟩ := hz i hi; ⟨z, (hb.cell (p := ⟨b, off + i, none⟩) hlt).trans h2, h3⟩⟩
end Go.Proofs.YtbhidjagmonnaaaGreatDoor

namespace M1
open Go
theorem utx_len (u : Upd) : (utx u).size ≤ 200 := by
  unfold utx
  split
  · rename_i h
    rw [mkB_size]
    exact txt_len h
  · exact Nat.zero_le _
theorem rdU_nil : rdU [] = none := by
  cases h : rdU [] with
  | none => rfl
  | some v => exact absurd (rdU_iff.1 h).2.symm (txt_ne v)
theorem rdU_utx (u : Upd) : rdU (utx u).data.toList = if okU u = true then some u else none := by
  unfold utx
  split
  · rename_i h
    rw [mkB_toList]
    exact rdU_iff.2 ⟨h, rfl⟩
  · exact rdU_nil
theorem utx_of {s : ByteArray} {v : Upd} (h : rdU s.data.toList = some v) : utx v = s ∧ v.s.size ≤ 12 := by
  obtain ⟨h1, h2⟩ := rdU_iff.1 h
  refine ⟨?_, ok_txt h1⟩
  unfold utx
  rw [if_pos h1, ← h2, mkB_of]
end M1
namespace Go.Proofs.YtbhidjagmonnaaaGreatDoor
open Go.ChangeShapes Go.WideShapes Go.ChangeAt Go.RowKit
set_option linter.unusedSimpArgs false
set_option linter.unusedVariables false

end Go.Proofs.YtbhidjagmonnaaaGreatDoor

namespace Go.Proofs.YtbhidjagmonnaaaGreatDoor
open Go.ChangeShapes Go.WideShapes Go.ChangeAt Go.RowKit

end Go.Proofs.YtbhidjagmonnaaaGreatDoor

namespace Go.Proofs.YtbhidjagmonnaaaGreatDoor
open Go.ChangeShapes Go.WideShapes Go.ChangeAt Go.RowKit
set_option linter.unusedSimpArgs false

theorem gr_grown {g : Nat} {w a b : World} {row : Option Nat} (h : Gr g w a) (hg : a.grownBy b row) (hrow : ∀ k, row = some k → w.heap.size ≤ k) : Gr g w b :=
  ⟨hg.os.trans h.os, hg.tape.trans h.tape, hg.output.trans h.output, Nat.le_trans h.size hg.size, fun i hi hn => (hg.block i (Nat.lt_of_lt_of_le hi h.size) (fun e => by have := hrow i e.symm; omega)).trans (h.block i hi hn)⟩
theorem grown_cell {w a b : World} {row : Option Nat} (hs : w.heap.size ≤ a.heap.size) (hg : a.grownBy b row) (hrow : ∀ k, row = some k → w.heap.size ≤ k) {k : Nat} (hk : k < w.heap.size) (o : Nat) : b.cell? ⟨k, o, none⟩ = a.cell? ⟨k, o, none⟩ ∧ b.frozen? ⟨k, o, none⟩ = a.frozen? ⟨k, o, none⟩ :=
  have e := hg.block k (Nat.lt_of_lt_of_le hk hs) (fun e => by have := hrow k e.symm; omega)
  ⟨World.cell?_of_block (w := a) e, World.frozen?_of_block (w := a) e⟩
theorem Rdr.grown {w a b : World} {row : Option Nat} {g : Nat} {av : Option Addr} {len cap : Nat} (h0 : Rdr w g av len cap) (h : Rdr a g av len cap) (hs : w.heap.size ≤ a.heap.size) (hg : a.grownBy b row) (hrow : ∀ k, row = some k → w.heap.size ≤ k) : Rdr b g av len cap := by
  have key := fun k (hk : k < w.heap.size) o => grown_cell hs hg hrow hk o
  obtain ⟨p, hp, h1⟩ := h.c1
  refine ⟨Nat.lt_of_lt_of_le h.lt hg.size, (key g h0.lt 0).1.trans h.c0, ⟨p, hp, (key g h0.lt 1).1.trans h1⟩, (key g h0.lt 0).2.trans h.f0, (key g h0.lt 1).2.trans h.f1, h.hc, h.hm, ?_⟩
  rcases h0.lies with e0 | ⟨b0, off0, e, hlt, hn, _⟩
  · exact Or.inl e0
  · rcases h.lies with e1 | ⟨b1, off1, e', _, _, hz⟩
    · exact Or.inl e1
    · rw [e] at e'
      injection e' with e'
      injection e' with e1 e2 _
      subst e1 e2
      exact Or.inr ⟨b0, off0, e, by have := hg.size; omega, hn, fun i hi => let ⟨z, h2, h3⟩ := hz i hi; ⟨z, (key b0 hlt _).1.trans h2, h3⟩⟩
theorem owns_gr {w w' : World} {base g : Nat} {e : TypeId} {size n : Nat} {v : Value} {xs : List Value} (h : w.ownsRow base e size v n xs) (hg : Gr g w w') (hb : g < base) : w'.ownsRow base e size v n xs := by
  obtain ⟨h1, h2⟩ := h
  refine ⟨h1, h2.imp id fun ⟨k, cap, cur, hv, hk, hh, r⟩ => ⟨k, cap, cur, hv, hk, ?_, r⟩⟩
  have hlt : k < w.heap.size := by
    rcases Nat.lt_or_ge k w.heap.size with h | h
    · exact h
    · rw [Array.getElem?_eq_none h] at hh; cases hh
  rw [hg.block k hlt (fun e => by injection e with e; omega)]; exact hh
theorem MV.gr {w w' : World} {av : Option Addr} {n cap lo hi g : Nat} {f : Nat → Value} (h : MV w av n cap lo hi f) (hg : Gr g w w') (hb : g < lo) : MV w' av n cap lo hi f :=
  ⟨h.1, h.2.1, h.2.2.imp id fun ⟨k, e, h1, h2, r⟩ => ⟨k, e, h1, h2, r.gr hg (by omega)⟩⟩
theorem MV.wide {w : World} {av : Option Addr} {n cap lo hi lo' hi' : Nat} {f : Nat → Value} (h : MV w av n cap lo hi f) (h1 : lo' ≤ lo) (h2 : hi ≤ hi') : MV w av n cap lo' hi' f :=
  ⟨h.1, h.2.1, h.2.2.imp id fun ⟨k, e, h3, h4, r⟩ => ⟨k, e, by omega, by omega, r⟩⟩

end Go.Proofs.YtbhidjagmonnaaaGreatDoor
