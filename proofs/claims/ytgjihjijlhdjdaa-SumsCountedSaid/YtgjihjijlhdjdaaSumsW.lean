/- Contracts of the plain functions of package sums, and of the document's own answers. -/
import Derived.Test.YtgjihjijlhdjdaaSumsP
import Derived.Test.YtgjihjijlhdjdaaWords
import Derived.Test.YtgjihjijlhdjdaaBits
import Derived.Test.YtgjihjijlhdjdaaStr
import Derived.Test.YtgjihjijlhdjdaaProg
import Derived.WalkKit
import Derived.WalkSpells
import Derived.Lib.Hide
import Derived.Outline
import Derived.Deep.QuietTactic
import Derived.BigQuiet
namespace Go.Proofs.Ytgjihjijlhdjdaa.SumW
open Go.RowKit Wd

theorem steps_last (P k s : Nat) : SumP.steps P (k + 1) s = SumP.step P (SumP.steps P k s) := by rw [SumP.steps_add]; rfl

theorem shortStep_any (s : Nat) (w : World) (hs : s < 65536) : Calls Try.prog 30 #[.int .u16 s] w fun e w' => e = .returned (.int .u16 (SumP.steps SumP.PS 8 s : Nat)) ∧ w = w' := by
  go_enter Try.func30, Try.ntmps30
  go_wp2_with fail
  go_loop [0, 4] (fun v i => ∃ k t : Nat, k ≤ 8 ∧ i = .int .i64 k ∧ v = .int .u16 t ∧ t < 65536 ∧ Hid (t = SumP.steps SumP.PS k s)) (fun _ i => 8 - (intOf i).toNat)
  case atStart => exact ⟨0, s, by omega, rfl, rfl, hs, rfl⟩
  case round =>
    obtain ⟨k, t, hk, rfl, rfl, ht, hH⟩ := hrel
    by_cases hlt : k < 8
    · by_cases hp : t % 2 = 1
      · have hb : (bits .and .u16 (t : Int) 1 == 1) = true := by rw [Bt.u16_bit t ht, hp]; rfl
        have hx := Lib.hid (Bt.u16_xor_half t 33800 ht (by omega))
        go_wp2_with fail
        refine ⟨⟨k + 1, t / 2 ^^^ 33800, hlt, by go_num, by rw [← hx.out]; rfl, Nat.xor_lt_two_pow (n := 16) (by omega) (by omega), ?_⟩, by simp [intOf]; omega⟩
        show t / 2 ^^^ 33800 = _
        rw [steps_last, ← hH.out]
        unfold SumP.step
        rw [if_pos hp]; rfl
      · have hb : (bits .and .u16 (t : Int) 1 == 1) = false := by rw [Bt.u16_bit t ht, show t % 2 = 0 by omega]; rfl
        go_wp2_with fail
        refine ⟨⟨k + 1, t / 2, hlt, by go_num, by rw [Int.natCast_ediv]; rfl, by omega, ?_⟩, by simp [intOf]; omega⟩
        show t / 2 = _
        rw [steps_last, ← hH.out]
        unfold SumP.step
        rw [if_neg hp]
    · obtain rfl : k = 8 := by omega
      go_wp2_with fail
      go_ret
      exact ⟨by rw [hH.out]; rfl, rfl⟩

theorem longStep_any (s : Nat) (w : World) (hs : s < 4294967296) : Calls Try.prog 32 #[.int .u32 s] w fun e w' => e = .returned (.int .u32 (SumP.steps SumP.PL 8 s : Nat)) ∧ w = w' := by
  go_enter Try.func32, Try.ntmps32
  go_wp2_with fail
  go_loop [0, 4] (fun v i => ∃ k t : Nat, k ≤ 8 ∧ i = .int .i64 k ∧ v = .int .u32 t ∧ t < 4294967296 ∧ Hid (t = SumP.steps SumP.PL k s)) (fun _ i => 8 - (intOf i).toNat)
  case atStart => exact ⟨0, s, by omega, rfl, rfl, hs, rfl⟩
  case round =>
    obtain ⟨k, t, hk, rfl, rfl, ht, hH⟩ := hrel
    by_cases hlt : k < 8
    · by_cases hp : t % 2 = 1
      · have hb : (bits .and .u32 (t : Int) 1 == 1) = true := by rw [Bt.u32_bit t ht, hp]; rfl
        have hx := Lib.hid (Bt.u32_xor_half t 2197175160 ht (by omega))
        go_wp2_with fail
        refine ⟨⟨k + 1, t / 2 ^^^ 2197175160, hlt, by go_num, by rw [← hx.out]; rfl, Nat.xor_lt_two_pow (n := 32) (by omega) (by omega), ?_⟩, by simp [intOf]; omega⟩
        show t / 2 ^^^ 2197175160 = _
        rw [steps_last, ← hH.out]
        unfold SumP.step
        rw [if_pos hp]; rfl
      · have hb : (bits .and .u32 (t : Int) 1 == 1) = false := by rw [Bt.u32_bit t ht, show t % 2 = 0 by omega]; rfl
        go_wp2_with fail
        refine ⟨⟨k + 1, t / 2, hlt, by go_num, by rw [Int.natCast_ediv]; rfl, by omega, ?_⟩, by simp [intOf]; omega⟩
        show t / 2 = _
        rw [steps_last, ← hH.out]
        unfold SumP.step
        rw [if_neg hp]
    · obtain rfl : k = 8 := by omega
      go_wp2_with fail
      go_ret
      exact ⟨by rw [hH.out]; rfl, rfl⟩

/-- Bytes as whole numbers. -/
def nb (xs : List Int) : List Nat := xs.map Int.toNat
theorem nb_snoc (xs : List Int) (y : Int) : nb (xs ++ [y]) = nb xs ++ [y.toNat] := by simp [nb]
theorem take_snoc (xs : List Int) (k : Nat) (h : k < xs.length) : xs.take (k + 1) = xs.take k ++ [xs.getD k 0] := by
  rw [List.take_succ_eq_append_getElem h]
  simp [List.getD, List.getElem?_eq_getElem h]

theorem short_any (A : Option Addr) (B c : Nat) (xs : List Int) (w : World) (hs : Lst w B A (u8s xs)) (hx : St.bts xs) (hl : xs.length ≤ maxLen) :
    Calls Try.prog 13 #[.slice A xs.length c] w fun e w' => e = .returned (.int .u16 (SumP.short (nb xs) : Nat)) ∧ w = w' := by
  unfold maxLen at hl
  go_enter Try.func13, Try.ntmps13
  go_wp2_with fail
  go_loop [3, 8] (fun v i => ∃ k t : Nat, k ≤ xs.length ∧ i = .int .i64 k ∧ v = .int .u16 t ∧ t < 65536 ∧ Hid (t = SumP.crc SumP.PS 65535 (nb (xs.take k)))) (fun _ i => xs.length - (intOf i).toNat)
  case atStart => exact ⟨0, 65535, by omega, rfl, rfl, by omega, rfl⟩
  case round =>
    obtain ⟨k, t, hk, rfl, rfl, ht, hH⟩ := hrel
    by_cases hlt : k < xs.length
    · obtain ⟨b, o, rfl, hb, hc⟩ := hs.bytes hlt
      have hck := hc k hlt
      have hyb : 0 ≤ xs.getD k 0 ∧ xs.getD k 0 ≤ 255 := hx _ (by simp [List.getD, List.getElem?_eq_getElem hlt])
      have HT := Lib.hid (take_snoc xs k hlt)
      clear hc hs hx
      generalize hy : xs.getD k 0 = y at *
      have hxx := Lib.hid (Bt.u16_xor_int t y ht hyb.1 hyb.2)
      have hlt2 : t ^^^ y.toNat < 65536 := Nat.xor_lt_two_pow (n := 16) ht (by omega)
      clear hy
      go_wp2_with fail
      rw [hxx.out]
      refine (shortStep_any (t ^^^ y.toNat) _ hlt2).mono ?_
      rintro e w1 ⟨rfl, rfl⟩
      have hsl := SumP.steps_lt SumP.PS 16 (by decide) 8 (t ^^^ y.toNat) hlt2
      have hfin : SumP.steps SumP.PS 8 (t ^^^ y.toNat) = SumP.crc SumP.PS 65535 (nb (xs.take (k + 1))) := by
        rw [HT.out, nb_snoc, SumP.crc_snoc, ← hH.out]; rfl
      have HF := Lib.hid hfin
      clear hfin
      generalize SumP.steps SumP.PS 8 (t ^^^ y.toNat) = q at *
      go_wp2_with fail
      exact ⟨⟨k + 1, q, hlt, by go_num, rfl, hsl, HF.out⟩, by simp [intOf]; omega⟩
    · obtain rfl : k = xs.length := by omega
      have hfin := hH.out
      rw [List.take_length] at hfin
      have HF := Lib.hid hfin
      clear hfin
      go_wp2_with fail
      go_ret
      refine ⟨ret_int ?_, rfl⟩
      rw [Bt.u16_turn t ht, HF.out]; rfl

theorem long_any (A : Option Addr) (B c : Nat) (xs : List Int) (w : World) (hs : Lst w B A (u8s xs)) (hx : St.bts xs) (hl : xs.length ≤ maxLen) :
    Calls Try.prog 15 #[.slice A xs.length c] w fun e w' => e = .returned (.int .u32 (SumP.long (nb xs) : Nat)) ∧ w = w' := by
  unfold maxLen at hl
  go_enter Try.func15, Try.ntmps15
  go_wp2_with fail
  go_loop [3, 8] (fun v i => ∃ k t : Nat, k ≤ xs.length ∧ i = .int .i64 k ∧ v = .int .u32 t ∧ t < 4294967296 ∧ Hid (t = SumP.crc SumP.PL 4294967295 (nb (xs.take k)))) (fun _ i => xs.length - (intOf i).toNat)
  case atStart => exact ⟨0, 4294967295, by omega, rfl, rfl, by omega, rfl⟩
  case round =>
    obtain ⟨k, t, hk, rfl, rfl, ht, hH⟩ := hrel
    by_cases hlt : k < xs.length
    · obtain ⟨b, o, rfl, hb, hc⟩ := hs.bytes hlt
      have hck := hc k hlt
      have hyb : 0 ≤ xs.getD k 0 ∧ xs.getD k 0 ≤ 255 := hx _ (by simp [List.getD, List.getElem?_eq_getElem hlt])
      have HT := Lib.hid (take_snoc xs k hlt)
      clear hc hs hx
      generalize hy : xs.getD k 0 = y at *
      have hxx := Lib.hid (Bt.u32_xor_int t y ht hyb.1 hyb.2)
      have hlt2 : t ^^^ y.toNat < 4294967296 := Nat.xor_lt_two_pow (n := 32) ht (by omega)
      clear hy
      go_wp2_with fail
      rw [hxx.out]
      refine (longStep_any (t ^^^ y.toNat) _ hlt2).mono ?_
      rintro e w1 ⟨rfl, rfl⟩
      have hsl := SumP.steps_lt SumP.PL 32 (by decide) 8 (t ^^^ y.toNat) hlt2
      have hfin : SumP.steps SumP.PL 8 (t ^^^ y.toNat) = SumP.crc SumP.PL 4294967295 (nb (xs.take (k + 1))) := by
        rw [HT.out, nb_snoc, SumP.crc_snoc, ← hH.out]; rfl
      have HF := Lib.hid hfin
      clear hfin
      generalize SumP.steps SumP.PL 8 (t ^^^ y.toNat) = q at *
      go_wp2_with fail
      exact ⟨⟨k + 1, q, hlt, by go_num, rfl, hsl, HF.out⟩, by simp [intOf]; omega⟩
    · obtain rfl : k = xs.length := by omega
      have hfin := hH.out
      rw [List.take_length] at hfin
      have HF := Lib.hid hfin
      clear hfin
      go_wp2_with fail
      go_ret
      refine ⟨ret_int ?_, rfl⟩
      rw [Bt.u32_turn t ht, HF.out]; rfl

end Go.Proofs.Ytgjihjijlhdjdaa.SumW
