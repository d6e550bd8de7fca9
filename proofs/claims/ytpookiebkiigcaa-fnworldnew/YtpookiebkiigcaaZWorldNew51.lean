/-
  Drawn bytes in memory; a reader is opened over them.
-/
import Derived.Test.YtpookiebkiigcaaZWorldNew50
namespace Go.Proofs.Ytpookiebkiigcaa
open Go.ChangeShapes Go.WideShapes Go.ChangeAt Go.RowKit
set_option maxRecDepth 100000

/-- A slice of bytes. -/
structure IsBytes (w : World) (av : Option Addr) (len cap : Nat) : Prop where
  hc : len ≤ cap
  hm : cap ≤ maxLen
  lies : len = 0 ∨ ∃ b off, av = some ⟨b, off, none⟩ ∧ b < w.heap.size ∧ ∀ i, i < len → ∃ z, w.cell? ⟨b, off + i, none⟩ = some (.int .u8 z) ∧ 0 ≤ z ∧ z ≤ 255

theorem IsBytes.below {w w' : World} {av : Option Addr} {len cap : Nat} (h : IsBytes w av len cap) {B : Nat} (hB : w.heap.size ≤ B) (hb : Below B w w') : IsBytes w' av len cap :=
  ⟨h.hc, h.hm, h.lies.imp id fun ⟨b, off, e, hlt, hz⟩ => ⟨b, off, e, Nat.lt_of_lt_of_le hlt hb.size, fun i hi => let ⟨z, h2, h3⟩ := hz i hi; ⟨z, (hb.cell (p := ⟨b, off + i, none⟩) (by show b < B; omega)).trans h2, h3⟩⟩⟩

theorem open_bytes {H : Type} {enc : TypeId × Value → H} {W : World} {fuel len cap : Nat} {a : Option Addr} {x : DataW H × List MemPlace}
    (hf : DataW.trod enc Try.prog W 0 (fun _ => true) true fuel 22 (Value.slice a len cap).cells.toList = some x) : IsBytes W a len cap := by
  rcases open_ints Try.underlying22 Try.underlying5 (by kernel_rfl) hf with ⟨hcs, _⟩ | ⟨y, l, c, zs, hcs, _, hl, hm, hz, _, hcell, hwz⟩
  · simp [Value.cells] at hcs
    obtain ⟨rfl, rfl, rfl⟩ := hcs
    exact ⟨Nat.le_refl _, Nat.zero_le _, Or.inl rfl⟩
  · simp [Value.cells] at hcs
    obtain ⟨rfl, rfl, rfl⟩ := hcs
    have hz' : zs.length = cap := by simpa using hz
    refine ⟨hl, hm, ?_⟩
    rcases Nat.eq_zero_or_pos len with h0 | h0
    · exact Or.inl h0
    · obtain ⟨b, off, rfl, hc⟩ := ints_at hcell (by omega)
      refine Or.inr ⟨b, off, rfl, World.block_lt_of_cell? W _ (hc 0 (by omega)), fun i hi => ⟨zs.getD i 0, hc i (by omega), ?_⟩⟩
      have hw := bounds_u8 (hwz (zs.getD i 0) (by simp [List.getD, show i < zs.length from by omega]))
      exact hw

theorem l1Open_any (av : Option Addr) (len cap : Nat) (w : World) (h : IsBytes w av len cap) :
    Calls Try.prog 37 #[.slice av len cap] w fun e w' => e = .returned (.pointer (some ⟨w.heap.size, 0, none⟩)) ∧ Rdr w' w.heap.size av len cap ∧ Below w.heap.size w w' := by
  go_enter Try.func37, Try.ntmps37
  go_wp2
  go_ret
  have hr := RowAt.new w #[.slice av len cap, .int .i64 0] 110
  refine ⟨rfl, ⟨by simp, hr.cell (o := 0) (by simp), ⟨0, Nat.zero_le _, hr.cell (o := 1) (by simp)⟩, hr.free (o := 0) (by simp), hr.free (o := 1) (by simp), h.hc, h.hm, ?_⟩, (Below.refl _ _).alloc (Nat.le_refl _) _⟩
  have hb : Below w.heap.size w (w.alloc (.cells #[.slice av len cap, .int .i64 0] 110)) := (Below.refl _ _).alloc (Nat.le_refl _) _
  exact h.lies.imp id fun ⟨b, off, e, hlt, hz⟩ => ⟨b, off, e, by simp; omega, by omega, fun i hi => let ⟨z, h2, h3⟩ := hz i hi; ⟨z, (hb.cell (p := ⟨b, off + i, none⟩) hlt).trans h2, h3⟩⟩
end Go.Proofs.Ytpookiebkiigcaa
