/- The contract of the reference's Digits. -/
import Derived.Test.YtoieadbifhealaaDoorRefKind
namespace Go.Proofs.YtoieadbifhealaaDoor.Eid
open Go.RowKit Wd Cb

/-- What the loop has: a number that is left, the digits behind it. -/
def DQ (u m : Nat) (o : List UInt8) : Prop := (o = [] ∧ m = u) ∨ (o ≠ [] ∧ (if m = 0 then o else Lib.decDigits m ++ o) = Lib.decDigits u)
theorem DQ.next {u m : Nat} {o : List UInt8} (h : DQ u m o) (hm : 0 < m ∨ o = []) : DQ u (m / 10) (UInt8.ofNat (48 + m % 10) :: o) := by
  have key : (if m / 10 = 0 then UInt8.ofNat (48 + m % 10) :: o else Lib.decDigits (m / 10) ++ (UInt8.ofNat (48 + m % 10) :: o)) = Lib.decDigits m ++ o := by
    by_cases h1 : m < 10
    · rw [if_pos (by omega), Lib.decDigits_one h1, Nat.mod_eq_of_lt h1]
      rfl
    · rw [if_neg (by omega)]
      conv => rhs; rw [Lib.decDigits, dif_neg h1]
      simp
  refine .inr ⟨by simp, ?_⟩
  rw [key]
  rcases h with ⟨rfl, rfl⟩ | ⟨h1, h2⟩
  · simp
  · rcases hm with h0 | h0
    · rw [if_neg (by omega)] at h2
      exact h2
    · exact absurd h0 h1
theorem DQ.fin {u : Nat} {o : List UInt8} (h : DQ u 0 o) (ho : o ≠ []) : o = Lib.decDigits u := by
  rcases h with ⟨rfl, _⟩ | ⟨_, h2⟩
  · exact absurd rfl ho
  · exact h2
theorem DQ.len {u m : Nat} {o : List UInt8} (h : DQ u m o) (hu : u ≤ 18446744073709551615) : o.length ≤ 20 := by
  have hd : (Lib.decDigits u).length ≤ 20 := by
    have := dec_size (u : Int) (by omega) (by omega)
    exact this
  rcases h with ⟨rfl, _⟩ | ⟨_, h2⟩
  · simp
  · have := congrArg List.length h2
    split at this
    · omega
    · rw [List.length_append] at this; omega
theorem conv_one (m : Nat) (wr : World) : (convert 23 9 (.slice (some ⟨wr.heap.size, 0, none⟩) 1 1)).run Tryd.prog (wr.alloc (.cells #[.int .u8 (48 + (m : Int) % 10)] 5)) = .ok (.string (ba [UInt8.ofNat (48 + m % 10)])) (wr.alloc (.cells #[.int .u8 (48 + (m : Int) % 10)] 5)) := by
  have h := run_string (P := Tryd.prog) (w := wr.alloc (.cells #[.int .u8 (48 + (m : Int) % 10)] 5)) (B := wr.heap.size + 1) (A := some ⟨wr.heap.size, 0, none⟩) (xs := [48 + (m : Int) % 10]) (Lst.lit wr _ _) 23 5 9 Tryd.underlying23 Tryd.underlying5 Tryd.underlying9 1
  have e : strOfNums [48 + (m : Int) % 10] = ba [UInt8.ofNat (48 + m % 10)] := by
    refine toList_inj ?_
    rw [Lib.toList_data, strOfNums_data, Lib.toList_data]
    show [UInt8.ofNat (48 + (m : Int) % 10).toNat] = [UInt8.ofNat (48 + m % 10)]
    congr 2
  rw [e] at h
  exact h
theorem ba_cons (c : UInt8) (o : List UInt8) : ba [c] ++ ba o = ba (c :: o) := toList_inj (by rw [Lib.toList_data, dlist, Lib.toList_data]; rfl)

set_option maxRecDepth 100000 in
set_option maxHeartbeats 2000000 in
theorem digits04_any (u : Nat) (hu : u ≤ 18446744073709551615) (w : World) : Calls Tryd.prog 68 #[.int .u64 u] w fun e w' => e = .returned (.string (ba (Lib.decDigits u))) ∧ Below w.heap.size w w' := by
  go_enter Tryd.func68, Tryd.ntmps68
  go_wp2_with fail
  go_loopw [0, 3] (fun n ov wr => ∃ (m : Nat) (o : List UInt8), n = .int .u64 m ∧ ov = .string (ba o) ∧ m ≤ u ∧ o.length ≤ 20 ∧ Hid (DQ u m o) ∧ Hid (Below w.heap.size w wr)) (fun n ov _ => match ov with | .string b => (intOf n).toNat * 2 + (if b.size = 0 then 1 else 0) | _ => 0)
  case atStart => exact ⟨u, [], rfl, rfl, Nat.le_refl _, by simp, Lib.hid (Or.inl ⟨rfl, rfl⟩), Lib.hid (Below.refl _ _)⟩
  case round =>
    obtain ⟨m, o, rfl, rfl, hmu, hol, HQ, HW⟩ := hrel
    by_cases h0 : 0 < m
    · have t0 : decide (0 < (m : Int)) = true := decide_eq_true (by omega)
      have HN := Lib.hid (HQ.out.next (.inl h0))
      have HL := Lib.hid (HN.out.len hu)
      have HWn := Lib.hid (HW.out.alloc HW.out.size (.cells #[.int .u8 (48 + (m : Int) % 10)] 5))
      have hcv := conv_one m wr
      have HBC := Lib.hid (ba_cons (UInt8.ofNat (48 + m % 10)) o)
      have hq : ¬ 9223372036854775807 < (ba [UInt8.ofNat (48 + m % 10)]).size + (ba o).size := by
        have e1 : (ba [UInt8.ofNat (48 + m % 10)]).size = 1 := rfl
        have e2 : (ba o).size = o.length := rfl
        rw [e1, e2]
        simp only [List.length_nil, List.length] at *
        omega
      generalize ba [UInt8.ofNat (48 + m % 10)] = B1 at *
      have HMS : Hid ((intOf (.int .u64 ((m : Int) / 10))).toNat = m / 10) := Lib.hid (by simp only [intOf]; omega)
      generalize hB2 : ba o = B2 at *
      clear hB2
      go_wp2_with fail
      go_roundw
      case rel => exact ⟨m / 10, _, by go_num, by rw [HBC.out], by omega, HL.out, HN, HWn⟩
      case measure =>
        have e0 : (intOf (.int .u64 (m : Int))).toNat = m := by simp [intOf]
        show (intOf (.int .u64 ((m : Int) / 10))).toNat * 2 + (if (B1 ++ B2).size = 0 then 1 else 0) < (intOf (.int .u64 (m : Int))).toNat * 2 + (if B2.size = 0 then 1 else 0)
        rw [HMS.out, e0, HBC.out, if_neg (by show ¬ (UInt8.ofNat (48 + m % 10) :: o).length = 0; simp)]
        omega
    · obtain rfl : m = 0 := by omega
      have t0 : decide ((0 : Int) < ((0 : Nat) : Int)) = false := rfl
      cases h1 : o.isEmpty
      · have hne : o ≠ [] := by rintro rfl; cases h1
        have HF := Lib.hid (HQ.out.fin hne)
        clear hne
        go_wp2_with fail
        go_ret
        exact ⟨by rw [← HF.out]; rfl, HW.out⟩
      · obtain rfl : o = [] := by simpa using h1
        have HN := Lib.hid (HQ.out.next (.inr rfl))
        have HWn := Lib.hid (HW.out.alloc HW.out.size (.cells #[.int .u8 48] 5))
        have hcv := conv_one 0 wr
        have hq : ¬ 9223372036854775807 < (ba [UInt8.ofNat (48 + 0 % 10)]).size + (ba []).size := by
          have e1 : (ba [UInt8.ofNat (48 + 0 % 10)]).size = 1 := rfl
          have e2 : (ba []).size = 0 := rfl
          rw [e1, e2]
          omega
        have HBC := Lib.hid (ba_cons (UInt8.ofNat (48 + 0 % 10)) [])
        have HSZ := Lib.hid (show ¬ (ba [UInt8.ofNat (48 + 0 % 10)]).size = 0 from (by decide))
        generalize hB1 : ba [UInt8.ofNat (48 + 0 % 10)] = B1 at *
        have HB1 := Lib.hid hB1
        clear hB1
        simp only [Int.natCast_zero, Int.zero_emod, Int.add_zero] at hcv
        go_wp2_with fail
        go_roundw
        case rel => exact ⟨0, [UInt8.ofNat (48 + 0 % 10)], rfl, by rw [HBC.out, HB1.out], by omega, by simp, HN, HWn⟩
        case measure =>
          show (intOf (.int .u64 0)).toNat * 2 + (if (B1 ++ ba []).size = 0 then 1 else 0) < (intOf (.int .u64 ((0 : Nat) : Int))).toNat * 2 + 1
          rw [HBC.out, if_neg HSZ.out]
          simp [intOf]
end Go.Proofs.YtoieadbifhealaaDoor.Eid
