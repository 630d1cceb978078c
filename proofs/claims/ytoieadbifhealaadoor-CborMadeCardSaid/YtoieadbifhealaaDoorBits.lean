/- Bits of whole numbers that are not below 0. No program is named here. -/
import Derived.Laws.BitsAllLaws
import Derived.Laws.BitsLemmas
namespace Go.Proofs.YtoieadbifhealaaDoor.Bt

theorem i64_nat (a : Nat) (ha : a < 9223372036854775808) : (BitVec.ofInt 64 (a : Int)).toNat = a := by
  rw [BitVec.ofInt_natCast, BitVec.toNat_ofNat]
  exact Nat.mod_eq_of_lt (by omega)
theorem i64_or (a b : Nat) (ha : a < 9223372036854775808) (hb : b < 9223372036854775808) : bits .or .i64 (a : Int) (b : Int) = ((a ||| b : Nat) : Int) := by
  have hx : a ||| b < 2 ^ 63 := Nat.or_lt_two_pow (by omega) (by omega)
  show IntKind.i64.wrap ((BitVec.ofInt 64 (a : Int) ||| BitVec.ofInt 64 (b : Int)).toNat : Int) = _
  rw [BitVec.toNat_or, i64_nat a ha, i64_nat b hb, IntKind.wrap_i64]
  omega
theorem i64_and (a b : Nat) (ha : a < 9223372036854775808) (hb : b < 9223372036854775808) : bits .and .i64 (a : Int) (b : Int) = ((a &&& b : Nat) : Int) := by
  have hx : a &&& b < 2 ^ 63 := Nat.and_lt_two_pow _ (by omega)
  show IntKind.i64.wrap ((BitVec.ofInt 64 (a : Int) &&& BitVec.ofInt 64 (b : Int)).toNat : Int) = _
  rw [BitVec.toNat_and, i64_nat a ha, i64_nat b hb, IntKind.wrap_i64]
  omega
/-- Three bits ahead of five. -/
theorem or_head (m l : Int) (h0 : 0 ≤ m) (h1 : m ≤ 7) (h2 : 0 ≤ l) (h3 : l ≤ 31) : bits .or .i64 (m * 32) l = m * 32 + l := by
  obtain ⟨a, rfl⟩ := Int.eq_ofNat_of_zero_le h0
  obtain ⟨b, rfl⟩ := Int.eq_ofNat_of_zero_le h2
  rw [show ((a : Int) * 32) = ((a * 32 : Nat) : Int) by omega, i64_or _ _ (by omega) (by omega), nat_join 5 (a * 32) b (by omega) (by omega)]
  omega
/-- A byte behind others. -/
theorem or_byte (n b : Int) (h0 : 0 ≤ n) (h1 : n < 72057594037927936) (h2 : 0 ≤ b) (h3 : b ≤ 255) : bits .or .u64 (n * 256) b = n * 256 + b := by
  obtain ⟨a, rfl⟩ := Int.eq_ofNat_of_zero_le h0
  obtain ⟨c, rfl⟩ := Int.eq_ofNat_of_zero_le h2
  rw [show ((a : Int) * 256) = ((a * 256 : Nat) : Int) by omega, u64_or_nat _ _ (by omega) (by omega), nat_join 8 (a * 256) c (by omega) (by omega)]
  omega
/-- The five lower bits of a byte. -/
theorem and31 (b : Int) (h0 : 0 ≤ b) (h1 : b ≤ 255) : bits .and .u8 b 31 = b % 32 := by
  obtain ⟨a, rfl⟩ := Int.eq_ofNat_of_zero_le h0
  rw [show (31 : Int) = ((31 : Nat) : Int) from rfl, u8_and_nat _ _ (by omega) (by omega), nat_mask5]
  omega
theorem u16_bit (t : Nat) (h : t < 65536) : bits .and .u16 (t : Int) 1 = ((t % 2 : Nat) : Int) := by
  have := u16_and_nat t 1 h (by omega)
  rw [nat_mask1] at this
  exact this
theorem u32_bit (t : Nat) (h : t < 4294967296) : bits .and .u32 (t : Int) 1 = ((t % 2 : Nat) : Int) := by
  have := u32_and_nat t 1 h (by omega)
  rw [nat_mask1] at this
  exact this
theorem u16_xor_half (t p : Nat) (h : t < 65536) (hp : p < 65536) : bits .xor .u16 ((t : Int) / 2) (p : Int) = ((t / 2 ^^^ p : Nat) : Int) := u16_xor_nat (t / 2) p (by omega) hp
theorem u32_xor_half (t p : Nat) (h : t < 4294967296) (hp : p < 4294967296) : bits .xor .u32 ((t : Int) / 2) (p : Int) = ((t / 2 ^^^ p : Nat) : Int) := u32_xor_nat (t / 2) p (by omega) hp
theorem u64_xor_half (t p : Nat) (h : t < 18446744073709551616) (hp : p < 18446744073709551616) : bits .xor .u64 ((t : Int) / 2) (p : Int) = ((t / 2 ^^^ p : Nat) : Int) := u64_xor_nat (t / 2) p (by omega) hp
theorem u16_xor_int (a : Nat) (y : Int) (h : a < 65536) (h0 : 0 ≤ y) (h1 : y ≤ 255) : bits .xor .u16 (a : Int) y = ((a ^^^ y.toNat : Nat) : Int) := by
  obtain ⟨b, rfl⟩ := Int.eq_ofNat_of_zero_le h0
  rw [Int.toNat_natCast]
  exact u16_xor_nat a b h (by omega)
theorem u32_xor_int (a : Nat) (y : Int) (h : a < 4294967296) (h0 : 0 ≤ y) (h1 : y ≤ 255) : bits .xor .u32 (a : Int) y = ((a ^^^ y.toNat : Nat) : Int) := by
  obtain ⟨b, rfl⟩ := Int.eq_ofNat_of_zero_le h0
  rw [Int.toNat_natCast]
  exact u32_xor_nat a b h (by omega)
theorem u64_xor_int (a : Nat) (y : Int) (h : a < 18446744073709551616) (h0 : 0 ≤ y) (h1 : y ≤ 255) : bits .xor .u64 (a : Int) y = ((a ^^^ y.toNat : Nat) : Int) := by
  obtain ⟨b, rfl⟩ := Int.eq_ofNat_of_zero_le h0
  rw [Int.toNat_natCast]
  exact u64_xor_nat a b h (by omega)
/-- All bits turned. -/
theorem turn (n t : Nat) (h : t < 2 ^ n) : (2 ^ n - 1) ^^^ t = 2 ^ n - 1 - t := by
  apply Nat.eq_of_testBit_eq
  intro i
  rw [show 2 ^ n - 1 - t = 2 ^ n - (t + 1) by omega, Nat.testBit_two_pow_sub_succ h, Nat.testBit_xor, Nat.testBit_two_pow_sub_one]
  by_cases hi : i < n
  · simp [hi]
  · simp [hi, Nat.testBit_lt_two_pow (Nat.lt_of_lt_of_le h (Nat.pow_le_pow_right (n := 2) (by omega) (show n ≤ i by omega)))]
theorem u16_turn (t : Nat) (h : t < 65536) : bits .xor .u16 IntKind.u16.max (t : Int) = ((65535 - t : Nat) : Int) := by
  have := u16_xor_nat 65535 t (by omega) h
  rw [turn 16 t h] at this
  exact this
theorem u32_turn (t : Nat) (h : t < 4294967296) : bits .xor .u32 IntKind.u32.max (t : Int) = ((4294967295 - t : Nat) : Int) := by
  have := u32_xor_nat 4294967295 t (by omega) h
  rw [turn 32 t h] at this
  exact this
end Go.Proofs.YtoieadbifhealaaDoor.Bt
