/-
  Texts of one proof, joined: Fr1.
-/
import Derived.Test.YtbhidjagmonnaaaGreatDoorRows
import Derived.Test.YtbhidjagmonnaaaGreatDoorZSegments00
import Derived.WalkKit
import Derived.ProofKit
import Derived.OpenShut
import Derived.Below
import Derived.Laws.IdiomStrings
import Derived.Laws.BitsAllLaws
import Derived.Deep.RegionWith
namespace Go.Proofs.YtbhidjagmonnaaaGreatDoor
open Go.ChangeShapes Go.WideShapes Go.ChangeAt Go.RowKit

theorem conv_one (W : World) (b : Nat) (n : Int) (h : W.cell? ⟨b, 0, none⟩ = some (.int .u8 n)) :
    (convert 22 9 (.slice (some ⟨b, 0, none⟩) 1 1)).run Tryz.prog W = .ok (.string (M1.by1 n.toNat)) W := by
  rw [run_convert_bytes_string W _ _ _ (some ⟨b, 0, none⟩) 1 1 Tryz.underlying22 Tryz.underlying5 Tryz.underlying9]
  have hl := run_loadCells_list (P := Tryz.prog) W ⟨b, 0, none⟩ ([n].map (Value.int .u8)) (fun j v hj => by
    match j, hj with
    | 0, hj => simp at hj; subst hj; simpa [Addr.add] using h
    | j + 1, hj => simp at hj)
  rw [run_bytesToString W ⟨b, 0, none⟩ 1 1 [n] (by simpa using hl)]
  simp [M1.by1]

theorem conv_four (W : World) (b : Nat) (n m k j : Int) (h0 : W.cell? ⟨b, 0, none⟩ = some (.int .u8 n)) (h1 : W.cell? ⟨b, 1, none⟩ = some (.int .u8 m)) (h2 : W.cell? ⟨b, 2, none⟩ = some (.int .u8 k)) (h3 : W.cell? ⟨b, 3, none⟩ = some (.int .u8 j)) :
    (convert 22 9 (.slice (some ⟨b, 0, none⟩) 4 4)).run Tryz.prog W = .ok (.string ((((ByteArray.empty.push (UInt8.ofNat n.toNat)).push (UInt8.ofNat m.toNat)).push (UInt8.ofNat k.toNat)).push (UInt8.ofNat j.toNat))) W := by
  rw [run_convert_bytes_string W _ _ _ (some ⟨b, 0, none⟩) 4 4 Tryz.underlying22 Tryz.underlying5 Tryz.underlying9]
  have hl := run_loadCells_list (P := Tryz.prog) W ⟨b, 0, none⟩ ([n, m, k, j].map (Value.int .u8)) (fun i v hi => by
    match i, hi with
    | 0, hi => simp at hi; subst hi; simpa [Addr.add] using h0
    | 1, hi => simp at hi; subst hi; simpa [Addr.add] using h1
    | 2, hi => simp at hi; subst hi; simpa [Addr.add] using h2
    | 3, hi => simp at hi; subst hi; simpa [Addr.add] using h3
    | i + 4, hi => simp at hi)
  rw [run_bytesToString W ⟨b, 0, none⟩ 4 4 [n, m, k, j] (by simpa using hl)]
  simp

theorem sumT_eq (s : ByteArray) : (((ByteArray.empty.push (UInt8.ofNat (((M1.crc s : Int) % 256)).toNat)).push (UInt8.ofNat (((M1.crc s : Int) / 256 % 256)).toNat)).push (UInt8.ofNat (((M1.crc s : Int) / 65536 % 256)).toNat)).push (UInt8.ofNat (((M1.crc s : Int) / 16777216 % 256)).toNat) = M1.sumT s := rfl

theorem bit_yes {c : Nat} (hc : c < 4294967296) (h : c % 2 = 1) : bits .xor .u32 ((c : Int) / 2) 3988292384 = ((M1.crcBit c : Nat) : Int) := by
  have := u32_xor_nat (c / 2) 3988292384 (by omega) (by omega)
  unfold M1.crcBit; rw [if_pos h, ← this]; rfl
theorem bit_no {c : Nat} (h : ¬ c % 2 = 1) : ((c : Int) / 2) = ((M1.crcBit c : Nat) : Int) := by
  unfold M1.crcBit; rw [if_neg h]; rfl
theorem last_eq {c : Nat} (hc : c < 4294967296) : bits .and .u32 (c : Int) 1 = ((c % 2 : Nat) : Int) := by
  have := u32_and_nat c 1 hc (by omega)
  rw [Nat.and_one_is_mod] at this; exact this
theorem not_eq {c : Nat} (hc : c < 4294967296) : bits .xor .u32 IntKind.u32.max (c : Int) = ((4294967295 ^^^ c : Nat) : Int) := u32_xor_nat 4294967295 c (by omega) hc

set_option maxHeartbeats 1000000 in
theorem l7Sum_any (s : ByteArray) (w : World) (hs : s.size ≤ maxLen) :
    Calls Tryz.prog 34 #[.string s] w fun e w' => e = .returned (.string (M1.sumT s)) ∧ Below w.heap.size w w' := by
  unfold maxLen at hs
  go_enter Tryz.func34, Tryz.ntmps34
  go_wp2
  go_loop [3, 4] (fun c i => ∃ k : Nat, k ≤ s.size ∧ i = .int .i64 k ∧ c = .int .u32 (M1.crcL (s.data.toList.take k) 4294967295 : Nat)) (fun c i => s.size - (intOf i).toNat)
  case atStart => exact ⟨0, Nat.zero_le _, rfl, rfl⟩
  case round =>
    obtain ⟨k, hk, rfl, rfl⟩ := hrel
    have hm : M1.crcL (s.data.toList.take k) 4294967295 < 4294967296 := M1.crcL_lt _ _ (by omega)
    by_cases hlt : k < s.size
    · have hst : Hid _ := M1.crcL_step s k hlt 4294967295
      generalize M1.crcL (s.data.toList.take k) 4294967295 = m at hm hst ⊢
      have hb : s[k].toNat < 256 := s[k].toNat_lt
      have hx : bits .xor .u32 (m : Int) (s[k].toNat : Int) = ((m ^^^ s[k].toNat : Nat) : Int) := u32_xor_nat _ _ hm (by omega)
      have hlt2 := M1.xor_lt hm (show s[k].toNat < 4294967296 by omega)
      go_wp2
      go_loop [3, 5] (fun c i => ∃ j : Nat, j ≤ 8 ∧ i = .int .i64 j ∧ c = .int .u32 (M1.crcIt j (m ^^^ s[k].toNat) : Nat)) (fun c i => 8 - (intOf i).toNat)
      case atStart => exact ⟨0, by omega, rfl, rfl⟩
      case round =>
        obtain ⟨j, hj, rfl, rfl⟩ := hrel
        have hc := M1.crcIt_lt hlt2 j
        by_cases hj8 : j < 8
        · have hst2 : Hid (M1.crcIt (j + 1) (m ^^^ s[k].toNat) = M1.crcBit (M1.crcIt j (m ^^^ s[k].toNat))) := (rfl : _ = _)
          clear hx
          generalize M1.crcIt j (m ^^^ s[k].toNat) = c at hc hst2 ⊢
          by_cases hodd : c % 2 = 1
          · have hb1 := bit_yes hc hodd
            have hc1 : ((c : Int) % 2 == 1) = true := by simp; omega
            go_wp2
            go_round
            case rel => exact ⟨j + 1, by omega, by go_num, by rw [hst2.out, ← hb1]⟩
            case measure => simp [intOf]; omega
          · have hb1 := bit_no hodd
            have hc1 : ((c : Int) % 2 == 1) = false := by simp; omega
            go_wp2
            go_round
            case rel => exact ⟨j + 1, by omega, by go_num, by rw [hst2.out, ← hb1]⟩
            case measure => simp [intOf]; omega
        · obtain rfl : j = 8 := by omega
          go_wp2
          go_round
          case rel => exact ⟨k + 1, by omega, by go_num, by rw [hst.out]⟩
          case measure => simp [intOf]; omega
    · have hd : Hid _ := M1.crc_end s k hk hlt
      have hn := not_eq hm
      have hz := M1.crc_lt s
      generalize M1.crcL (s.data.toList.take k) 4294967295 = m at hm hd hn ⊢
      rw [← hd.out] at hn
      clear hd
      have k4 := conv_four
      go_wp2
      go_ret
      exact ⟨by rw [sumT_eq]; rfl, (Below.refl _ _).alloc (Nat.le_refl _) _⟩

set_option maxHeartbeats 1000000 in
theorem checksumOf_any (s : ByteArray) (w : World) (hs : s.size ≤ maxLen) :
    Calls Tryz.prog 69 #[.string s] w fun e w' => e = .returned (.int .u32 (M1.crc s : Nat)) ∧ w' = w := by
  unfold maxLen at hs
  go_enter Tryz.func69, Tryz.ntmps69
  go_wp2
  go_loop [3, 4] (fun c i => ∃ k : Nat, k ≤ s.size ∧ i = .int .i64 k ∧ c = .int .u32 (M1.crcL (s.data.toList.take k) 4294967295 : Nat)) (fun c i => s.size - (intOf i).toNat)
  case atStart => exact ⟨0, Nat.zero_le _, rfl, rfl⟩
  case round =>
    obtain ⟨k, hk, rfl, rfl⟩ := hrel
    have hm : M1.crcL (s.data.toList.take k) 4294967295 < 4294967296 := M1.crcL_lt _ _ (by omega)
    by_cases hlt : k < s.size
    · have hst : Hid _ := M1.crcL_step s k hlt 4294967295
      generalize M1.crcL (s.data.toList.take k) 4294967295 = m at hm hst ⊢
      have hb : s[k].toNat < 256 := s[k].toNat_lt
      have hx : bits .xor .u32 (m : Int) (s[k].toNat : Int) = ((m ^^^ s[k].toNat : Nat) : Int) := u32_xor_nat _ _ hm (by omega)
      have hlt2 := M1.xor_lt hm (show s[k].toNat < 4294967296 by omega)
      go_wp2
      go_loop [3, 18] (fun c i => ∃ j : Nat, j ≤ 8 ∧ i = .int .i64 j ∧ c = .int .u32 (M1.crcIt j (m ^^^ s[k].toNat) : Nat)) (fun c i => 8 - (intOf i).toNat)
      case atStart => exact ⟨0, by omega, rfl, rfl⟩
      case round =>
        obtain ⟨j, hj, rfl, rfl⟩ := hrel
        have hc := M1.crcIt_lt hlt2 j
        by_cases hj8 : j < 8
        · have hst2 : Hid (M1.crcIt (j + 1) (m ^^^ s[k].toNat) = M1.crcBit (M1.crcIt j (m ^^^ s[k].toNat))) := (rfl : _ = _)
          clear hx
          generalize M1.crcIt j (m ^^^ s[k].toNat) = c at hc hst2 ⊢
          have hla := last_eq hc
          by_cases hodd : c % 2 = 1
          · have hb1 := bit_yes hc hodd
            have hc1 : ((c : Int) % 2 == 1) = true := by simp; omega
            rw [hodd] at hla
            go_wp2
            go_round
            case rel => exact ⟨j + 1, by omega, by go_num, by rw [hst2.out]⟩
            case measure => simp [intOf]; omega
          · have hb1 := bit_no hodd
            rw [show c % 2 = 0 by omega] at hla
            go_wp2
            go_round
            case rel => exact ⟨j + 1, by omega, by go_num, by rw [hst2.out, ← hb1]⟩
            case measure => simp [intOf]; omega
        · obtain rfl : j = 8 := by omega
          go_wp2
          go_round
          case rel => exact ⟨k + 1, by omega, by go_num, by rw [hst.out]⟩
          case measure => simp [intOf]; omega
    · have hd : Hid _ := M1.crc_end s k hk hlt
      have hn := not_eq hm
      have hz := M1.crc_lt s
      generalize M1.crcL (s.data.toList.take k) 4294967295 = m at hm hd hn ⊢
      rw [← hd.out] at hn
      clear hd
      go_wp2
      go_ret
      exact ⟨rfl, rfl⟩

set_option maxHeartbeats 1000000 in
theorem sumText_any (s : ByteArray) (w : World) (hs : s.size ≤ maxLen) :
    Calls Tryz.prog 43 #[.string s] w fun e w' => e = .returned (.string (M1.sumT s)) ∧ Below w.heap.size w w' := by
  have hz := M1.crc_lt s
  have k4 := conv_four
  go_enter Tryz.func43, Tryz.ntmps43
  go_wp2_with (go_at_call 69; refine (checksumOf_any _ _ hs).mono ?_; rintro e w' ⟨rfl, rfl⟩)
  go_ret
  exact ⟨by unfold M1.sumT; rw [show M1.crc s / 16777216 % 256 = M1.crc s / 16777216 by omega]; rfl, (Below.refl _ _).alloc (Nat.le_refl _) _⟩

set_option maxHeartbeats 1000000 in
theorem frameOf_spec (s : ByteArray) (w : World) (hs : s.size ≤ maxLen) :
    Calls Tryz.prog 18 #[.string s] w fun e w' => e = .returned (.string (M1.frame s)) ∧ Below w.heap.size w w' := by
  have hs' := hs
  unfold maxLen at hs'
  unfold M1.frame
  have k1 := conv_one
  have z1 := M1.by1_size
  have z4 := M1.sumT_size
  by_cases h : 200 < s.size
  · rw [if_pos h]
    go_enter Tryz.func18, Tryz.ntmps18
    go_wp2
    go_ret
    exact ⟨rfl, Below.refl _ _⟩
  · rw [if_neg h]
    go_enter Tryz.func18, Tryz.ntmps18
    go_wp2
    go_region_with (go_at_call 34; refine (l7Sum_any _ _ hs).mono ?_; rintro e w1 ⟨rfl, hb1⟩; obtain ⟨hc1, hf1⟩ := bcell hb1; have hq1 : w.heap.size ≤ w1.heap.size := (by have hq := hb1.size; simp at hq; omega))
    all_goals go_wp2
    all_goals go_ret
    all_goals (refine ⟨rfl, ?_⟩; repeat (first | (with_reducible exact Below.refl _ _) | ((with_reducible refine Below.setCell ?_ ?_ _); rotate_left; (focus (first | omega | (simp; done) | (simp; omega)))) | ((with_reducible refine Below.alloc ?_ ?_ _); rotate_left; (focus (first | omega | (simp; done) | (simp; omega)))) | (with_reducible refine Below.drew ?_) | ((with_reducible refine Below.trans ?_ (Below.mono hb1 ?_)); rotate_left; (focus (first | omega | (simp; done) | (simp; omega))))))

set_option maxHeartbeats 1000000 in
theorem frameOf_impl (s : ByteArray) (w : World) (hs : s.size ≤ maxLen) :
    Calls Tryz.prog 17 #[.string s] w fun e w' => e = .returned (.string (M1.frame s)) ∧ Below w.heap.size w w' := by
  have hs' := hs
  unfold maxLen at hs'
  unfold M1.frame
  have k1 := conv_one
  have z1 := M1.by1_size
  have z4 := M1.sumT_size
  by_cases h : 200 < s.size
  · rw [if_pos h]
    go_enter Tryz.func17, Tryz.ntmps17
    go_wp2
    go_ret
    exact ⟨rfl, Below.refl _ _⟩
  · rw [if_neg h]
    go_enter Tryz.func17, Tryz.ntmps17
    go_wp2
    go_region_with (go_at_call 43; refine (sumText_any _ _ hs).mono ?_; rintro e w1 ⟨rfl, hb1⟩; obtain ⟨hc1, hf1⟩ := bcell hb1; have hq1 : w.heap.size ≤ w1.heap.size := (by have hq := hb1.size; simp at hq; omega))
    all_goals go_wp2
    all_goals go_ret
    all_goals (refine ⟨rfl, ?_⟩; repeat (first | (with_reducible exact Below.refl _ _) | ((with_reducible refine Below.setCell ?_ ?_ _); rotate_left; (focus (first | omega | (simp; done) | (simp; omega)))) | ((with_reducible refine Below.alloc ?_ ?_ _); rotate_left; (focus (first | omega | (simp; done) | (simp; omega)))) | (with_reducible refine Below.drew ?_) | ((with_reducible refine Below.trans ?_ (Below.mono hb1 ?_)); rotate_left; (focus (first | omega | (simp; done) | (simp; omega))))))
end Go.Proofs.YtbhidjagmonnaaaGreatDoor
