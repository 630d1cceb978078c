/- Texts as lists of bytes: a number's decimal digits and back, prefixes, cuts. No program is named here. -/
import Derived.Lib.ItoaNum
import Derived.Lib.ParseIntB
import Derived.Lib.Strings
import Derived.Lib.IndexMore
import Derived.Lib.IndexBytes
namespace Go.Proofs.YtbgcbcnidjlhnaaDoor.EidL
open Go

/-- A list of digits. -/
def Dig (l : List UInt8) : Prop := ∀ c ∈ l, 48 ≤ c.toNat ∧ c.toNat ≤ 57
theorem dig_one (k : Nat) (h : k < 10) : (UInt8.ofNat (48 + k)).toNat = 48 + k := by
  rw [UInt8.toNat_ofNat', Nat.mod_eq_of_lt (by omega)]
theorem dec_dig (u : Nat) : Dig (Lib.decDigits u) := by
  induction u using Nat.strongRecOn with
  | _ u ih =>
    intro c hc
    by_cases h : u < 10
    · rw [Lib.decDigits_one h] at hc
      obtain rfl : c = UInt8.ofNat (48 + u) := by simpa using hc
      rw [dig_one u h]; omega
    · rw [Lib.decDigits, dif_neg h, List.mem_append] at hc
      rcases hc with hc | hc
      · exact ih (u / 10) (by omega) c hc
      · obtain rfl : c = UInt8.ofNat (48 + u % 10) := by simpa using hc
        rw [dig_one _ (by omega)]; omega
theorem dec_ne (u : Nat) : Lib.decDigits u ≠ [] := by
  intro h
  have := congrArg List.length h
  rw [Lib.decDigits_length] at this
  have := Lib.nDigits_pos u
  simp at *
  omega
theorem parse_push (M : Nat) (hM : M < 18446744073709551616) (u : Nat) : ∀ (acc : Nat) (r : List UInt8), acc * 10 ^ Lib.nDigits u + u ≤ M → Lib.parseUintM M acc (Lib.decDigits u ++ r) = Lib.parseUintM M (acc * 10 ^ Lib.nDigits u + u) r := by
  induction u using Nat.strongRecOn with
  | _ u ih =>
    intro acc r hle
    by_cases h : u < 10
    · rw [Lib.nDigits_small h] at hle ⊢
      rw [Lib.decDigits_one h, List.singleton_append]
      conv => lhs; unfold Lib.parseUintM
      rw [dig_one u h, if_pos (by omega), if_neg (by omega), if_neg (by omega), show acc * 10 + (48 + u - 48) = acc * 10 ^ 1 + u by omega]
    · rw [Lib.nDigits_big h, Nat.pow_succ] at hle ⊢
      have e1 : acc * (10 ^ Lib.nDigits (u / 10) * 10) = acc * 10 ^ Lib.nDigits (u / 10) * 10 := (Nat.mul_assoc ..).symm
      rw [e1] at hle ⊢
      rw [Lib.decDigits, dif_neg h, List.append_assoc, ih (u / 10) (by omega) acc _ (by omega), List.singleton_append]
      generalize acc * 10 ^ Lib.nDigits (u / 10) = A at *
      conv => lhs; unfold Lib.parseUintM
      rw [dig_one _ (by omega), if_pos (by omega), if_neg (by omega), if_neg (by omega), show (A + u / 10) * 10 + (48 + u % 10 - 48) = A * 10 + u by omega]
theorem parse_dec (u : Nat) (h : u ≤ 4294967295) : Lib.parseUintB 32 (Lib.decDigits u) = .ok u := by
  unfold Lib.parseUintB
  rw [if_neg (dec_ne u)]
  have := parse_push (2 ^ 32 - 1) (by omega) u 0 [] (by omega)
  rw [List.append_nil] at this
  rw [this]
  simp [Lib.parseUintM]
theorem dec_inj {u v : Nat} (hu : u ≤ 4294967295) (hv : v ≤ 4294967295) (h : Lib.decDigits u = Lib.decDigits v) : u = v := by
  have h1 := parse_dec u hu
  rw [h, parse_dec v hv] at h1
  injection h1 with h1
  exact h1.symm

theorem indexByte_here : ∀ (a b : List UInt8) (c : UInt8), c ∉ a → Lib.indexByte (a ++ c :: b) c = a.length
  | [], b, c, _ => by simp [Lib.indexByte]
  | x :: a, b, c, h => by
    have hx : (x == c) = false := by
      rw [beq_eq_false_iff_ne]
      rintro rfl
      exact h (List.mem_cons_self ..)
    have ih := indexByte_here a b c (fun hm => h (List.mem_cons_of_mem _ hm))
    rw [List.cons_append]
    unfold Lib.indexByte
    rw [hx, ih]
    have : (((a.length : Nat) : Int) == -1) = false := by rw [beq_eq_false_iff_ne]; omega
    simp [this]
theorem indexByte_not : ∀ (a : List UInt8) (c : UInt8), c ∉ a → Lib.indexByte a c = -1
  | [], c, _ => by simp [Lib.indexByte]
  | x :: a, c, h => by
    have hx : (x == c) = false := by
      rw [beq_eq_false_iff_ne]
      rintro rfl
      exact h (List.mem_cons_self ..)
    have ih := indexByte_not a c (fun hm => h (List.mem_cons_of_mem _ hm))
    unfold Lib.indexByte
    rw [hx, ih]
    rfl
theorem cut_here (a b : List UInt8) (c : UInt8) (h : c ∉ a) : Lib.cut (a ++ c :: b) [c] = (a, b, true) := by
  unfold Lib.cut
  rw [Lib.index_one, indexByte_here a b c h, if_pos (by omega)]
  simp
theorem cut_not (a : List UInt8) (c : UInt8) (h : c ∉ a) : Lib.cut a [c] = (a, [], false) := by
  unfold Lib.cut
  rw [Lib.index_one, indexByte_not a c h, if_neg (by omega)]
theorem prefix_here (p l : List UInt8) : Lib.hasPrefix (p ++ l) p = true := by
  unfold Lib.hasPrefix
  rw [List.isPrefixOf_iff_prefix]
  exact List.prefix_append ..
theorem trim_here (p l : List UInt8) : Lib.trimPrefix (p ++ l) p = l := by
  unfold Lib.trimPrefix
  rw [prefix_here, if_pos rfl, List.drop_left]
end Go.Proofs.YtbgcbcnidjlhnaaDoor.EidL
