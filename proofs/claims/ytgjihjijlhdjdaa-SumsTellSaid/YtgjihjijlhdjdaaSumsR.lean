/- The document's own answers of layer 1. -/
import Derived.Test.YtgjihjijlhdjdaaSumsW
namespace Go.Proofs.Ytgjihjijlhdjdaa.SumW
open Go.RowKit Wd

set_option maxRecDepth 100000 in
set_option maxHeartbeats 400000 in
theorem sum_any (P F : Nat) (A : Option Addr) (B c : Nat) (xs : List Int) (w : World) (hP : P < 4294967296) (hF : F < 4294967296) (hs : Lst w B A (u8s xs)) (hx : St.bts xs) (hl : xs.length ≤ maxLen)
    (hc : ∀ l : List Nat, (∀ x ∈ l, x < 256) → SumP.crc P F l ≤ F) :
    Calls Try.prog 31 #[.slice A xs.length c, .int .u64 F, .int .u64 P] w fun e w' => e = .returned (.int .u64 (F - SumP.crc P F (nb xs) : Nat)) ∧ w = w' := by
  unfold maxLen at hl
  have hcr := hc (nb xs) (fun x h => by
    simp only [nb, List.mem_map] at h
    obtain ⟨y, hy, rfl⟩ := h
    have := hx y hy
    omega)
  have HCR := Lib.hid hcr
  clear hcr hc
  go_enter Try.func31, Try.ntmps31
  go_wp2_with fail
  go_loop [7, 8] (fun v i => ∃ k t : Nat, k ≤ xs.length ∧ i = .int .i64 k ∧ v = .int .u64 t ∧ t < 4294967296 ∧ Hid (t = SumP.crc P F (nb (xs.take k)))) (fun _ i => xs.length - (intOf i).toNat)
  case atStart => exact ⟨0, F, by omega, rfl, rfl, hF, rfl⟩
  case round =>
    obtain ⟨k, t, hk, rfl, rfl, ht, hH⟩ := hrel
    by_cases hlt : k < xs.length
    · obtain ⟨b, o, rfl, hb, hcc⟩ := hs.bytes hlt
      have hck := hcc k hlt
      have hyb : 0 ≤ xs.getD k 0 ∧ xs.getD k 0 ≤ 255 := hx _ (by simp [List.getD, List.getElem?_eq_getElem hlt])
      have HT := Lib.hid (take_snoc xs k hlt)
      clear hcc hs hx
      generalize hy : xs.getD k 0 = y at *
      have hxx := Lib.hid (Bt.u64_xor_int t y (by omega) hyb.1 hyb.2)
      have hlt2 : t ^^^ y.toNat < 4294967296 := Nat.xor_lt_two_pow (n := 32) ht (by omega)
      clear hy
      go_wp2_with fail
      rw [hxx.out]
      have hfin : SumP.steps P 8 (t ^^^ y.toNat) = SumP.crc P F (nb (xs.take (k + 1))) := by
        rw [HT.out, nb_snoc, SumP.crc_snoc, ← hH.out]; rfl
      have HFIN := Lib.hid hfin
      clear hfin hxx
      generalize t ^^^ y.toNat = q at *
      go_loop [7, 9] (fun v i => ∃ j u : Nat, j ≤ 8 ∧ i = .int .i64 j ∧ v = .int .u64 u ∧ u < 4294967296 ∧ Hid (u = SumP.steps P j q)) (fun _ i => 8 - (intOf i).toNat)
      case atStart => exact ⟨0, q, by omega, rfl, rfl, hlt2, rfl⟩
      case round =>
        obtain ⟨j, u, hj, rfl, rfl, hu, hU⟩ := hrel
        by_cases hj8 : j < 8
        · by_cases hp : u % 2 = 1
          · have hb1 : ((u : Int) % 2 == 1) = true := by simp; omega
            have hx2 := Lib.hid (Bt.u64_xor_half u P (by omega) (by omega))
            go_wp2_with fail
            refine ⟨⟨j + 1, u / 2 ^^^ P, hj8, by go_num, by rw [hx2.out], Nat.xor_lt_two_pow (n := 32) (by omega) (by omega), ?_⟩, by simp [intOf]; omega⟩
            show u / 2 ^^^ P = _
            rw [steps_last, ← hU.out]
            unfold SumP.step
            rw [if_pos hp]
          · have hb1 : ((u : Int) % 2 == 1) = false := by simp; omega
            go_wp2_with fail
            refine ⟨⟨j + 1, u / 2, hj8, by go_num, by rw [Int.natCast_ediv]; rfl, by omega, ?_⟩, by simp [intOf]; omega⟩
            show u / 2 = _
            rw [steps_last, ← hU.out]
            unfold SumP.step
            rw [if_neg hp]
        · obtain rfl : j = 8 := by omega
          go_wp2_with fail
          exact ⟨⟨k + 1, u, hlt, by go_num, rfl, hu, hU.out.trans HFIN.out⟩, by simp [intOf]; omega⟩
    · obtain rfl : k = xs.length := by omega
      have hfin := hH.out
      rw [List.take_length] at hfin
      have HFIN := Lib.hid hfin
      have hle : t ≤ F := by have := HCR.out; omega
      clear hfin
      go_wp2_with fail
      go_ret
      exact ⟨ret_int (by rw [← HFIN.out]; omega), rfl⟩

theorem crc_le (P B F : Nat) (hP : P < 2 ^ B) (hB : 8 ≤ B) (hF : F = 2 ^ B - 1) (l : List Nat) (h : ∀ x ∈ l, x < 256) : SumP.crc P F l ≤ F := by
  have := SumP.crc_lt P B hP hB l F h (by have := Nat.two_pow_pos B; omega)
  omega

theorem refShort_any (A : Option Addr) (B c : Nat) (xs : List Int) (w : World) (hs : Lst w B A (u8s xs)) (hx : St.bts xs) (hl : xs.length ≤ maxLen) :
    Calls Try.prog 14 #[.slice A xs.length c] w fun e w' => e = .returned (.int .u16 (SumP.short (nb xs) : Nat)) ∧ w = w' := by
  have hsum := fun W (h : Lst W B A (u8s xs)) => sum_any SumP.PS 65535 A B c xs W (by decide) (by omega) h hx hl (fun l h => crc_le SumP.PS 16 65535 (by decide) (by omega) rfl l h)
  have hle : 65535 - SumP.crc SumP.PS 65535 (nb xs) ≤ 65535 := by omega
  have hdef : SumP.short (nb xs) = 65535 - SumP.crc SumP.PS 65535 (nb xs) := rfl
  have HD := Lib.hid hdef
  clear hdef
  generalize 65535 - SumP.crc SumP.PS 65535 (nb xs) = r at *
  have HS := Lib.hid hsum
  clear hsum
  go_enter Try.func14, Try.ntmps14
  go_wp2_with fail
  refine (HS.out _ hs).mono ?_
  rintro e w1 ⟨rfl, rfl⟩
  go_wp2_with fail
  go_ret
  exact ⟨ret_int (by rw [HD.out]), rfl⟩

theorem refLong_any (A : Option Addr) (B c : Nat) (xs : List Int) (w : World) (hs : Lst w B A (u8s xs)) (hx : St.bts xs) (hl : xs.length ≤ maxLen) :
    Calls Try.prog 16 #[.slice A xs.length c] w fun e w' => e = .returned (.int .u32 (SumP.long (nb xs) : Nat)) ∧ w = w' := by
  have hsum := fun W (h : Lst W B A (u8s xs)) => sum_any SumP.PL 4294967295 A B c xs W (by decide) (by omega) h hx hl (fun l h => crc_le SumP.PL 32 4294967295 (by decide) (by omega) rfl l h)
  have hle : 4294967295 - SumP.crc SumP.PL 4294967295 (nb xs) ≤ 4294967295 := by omega
  have hdef : SumP.long (nb xs) = 4294967295 - SumP.crc SumP.PL 4294967295 (nb xs) := rfl
  have HD := Lib.hid hdef
  clear hdef
  generalize 4294967295 - SumP.crc SumP.PL 4294967295 (nb xs) = r at *
  have HS := Lib.hid hsum
  clear hsum
  go_enter Try.func16, Try.ntmps16
  go_wp2_with fail
  refine (HS.out _ hs).mono ?_
  rintro e w1 ⟨rfl, rfl⟩
  go_wp2_with fail
  go_ret
  exact ⟨ret_int (by rw [HD.out]), rfl⟩
end Go.Proofs.Ytgjihjijlhdjdaa.SumW
