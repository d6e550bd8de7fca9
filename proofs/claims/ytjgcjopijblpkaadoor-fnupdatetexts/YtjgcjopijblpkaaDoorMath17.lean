/-
  Plain mathematics of chapter 7's sums (no program): the CRC-32, bit by bit.
-/
import Derived.WalkKit
import Derived.Laws.BitsAllLaws
namespace M1

def crcBit (c : Nat) : Nat := if c % 2 = 1 then (c / 2) ^^^ 3988292384 else c / 2
def crcIt : Nat → Nat → Nat
  | 0, c => c
  | n + 1, c => crcBit (crcIt n c)
def crcL (l : List UInt8) (c : Nat) : Nat := l.foldl (fun c b => crcIt 8 (c ^^^ b.toNat)) c
def crc (s : ByteArray) : Nat := 4294967295 ^^^ crcL s.data.toList 4294967295

theorem xor_lt {a b : Nat} (ha : a < 4294967296) (hb : b < 4294967296) : a ^^^ b < 4294967296 := Nat.xor_lt_two_pow (n := 32) ha hb
theorem crcBit_lt {c : Nat} (h : c < 4294967296) : crcBit c < 4294967296 := by
  unfold crcBit
  split
  · exact xor_lt (by omega) (by omega)
  · omega
theorem crcIt_lt {c : Nat} (h : c < 4294967296) : ∀ n, crcIt n c < 4294967296
  | 0 => h
  | n + 1 => crcBit_lt (crcIt_lt h n)
theorem crcL_lt : ∀ (l : List UInt8) (c : Nat), c < 4294967296 → crcL l c < 4294967296
  | [], c, h => h
  | b :: l, c, h => crcL_lt l _ (crcIt_lt (xor_lt h (by have := b.toNat_lt; omega)) 8)
theorem crc_lt (s : ByteArray) : crc s < 4294967296 := xor_lt (by omega) (crcL_lt _ _ (by omega))
theorem crcL_step (s : ByteArray) (k : Nat) (hk : k < s.size) (c : Nat) : crcL (s.data.toList.take (k + 1)) c = crcIt 8 (crcL (s.data.toList.take k) c ^^^ s[k].toNat) := by
  have hk' : k < s.data.toList.length := by simpa using hk
  rw [List.take_succ_eq_append_getElem hk']
  unfold crcL
  rw [List.foldl_append]
  simp [ByteArray.getElem_eq_getElem_data]
theorem crcL_all (s : ByteArray) (c : Nat) : crcL (s.data.toList.take s.size) c = crcL s.data.toList c := by
  rw [List.take_of_length_le (by simp)]

theorem crc_end (s : ByteArray) (k : Nat) (h1 : k ≤ s.size) (h2 : ¬ k < s.size) : crc s = 4294967295 ^^^ crcL (s.data.toList.take k) 4294967295 := by
  obtain rfl : k = s.size := by omega
  rw [crcL_all]; rfl

def by1 (n : Nat) : ByteArray := ByteArray.empty.push (UInt8.ofNat n)
def sumT (s : ByteArray) : ByteArray := (((ByteArray.empty.push (UInt8.ofNat (crc s % 256))).push (UInt8.ofNat (crc s / 256 % 256))).push (UInt8.ofNat (crc s / 65536 % 256))).push (UInt8.ofNat (crc s / 16777216 % 256))
theorem by1_size (n : Nat) : (by1 n).size = 1 := rfl
theorem sumT_size (s : ByteArray) : (sumT s).size = 4 := rfl
def frame (s : ByteArray) : ByteArray := if 200 < s.size then ByteArray.empty else by1 s.size ++ sumT s ++ s
end M1
