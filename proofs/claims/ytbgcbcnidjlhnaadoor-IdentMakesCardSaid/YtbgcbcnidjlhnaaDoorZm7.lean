/- Texts of my own, laid together: RefDig, RefText. -/
import Derived.Test.YtbgcbcnidjlhnaaDoorRefKind
import Derived.Test.YtbgcbcnidjlhnaaDoorEidTexts
/- The contract of the reference's Digits. -/
namespace Go.Proofs.YtbgcbcnidjlhnaaDoor.Eid
open Go.RowKit Wd Cb

/-- What the loop has: a number that is left, the digits behind it. -/
def DQ (u m : Nat) (o : List UInt8) : Prop := (o = [] ∧ m = u) ∨ (o ≠ [] ∧ (if m = 0 then o else Lib.decDigits m ++ o) = Lib.decDigits u)
theorem DQ.next {u m : Nat} {o : List UInt8} (h : DQ u m o) (hm : 0 < m ∨ o = []) : DQ u (m / 10) (UInt8.ofNat (48 + m % 10) :: o) := by
  have key : (if m / 10 = 0 then UInt8.ofNat (48 + m % 10) :: o else Lib.decDigits (m / 10) ++ (UInt8.ofNat (48 + m % 10) :: o)) = Lib.decDigits m ++ o := by
    by_cases h1 : m < 10
    · rw [if_pos (by omega), Lib.decDigits_one h1, Nat.mod_eq_of_lt h1]
      rfl
    · rw [if_neg (by omega)]
      conv => rhs; rw [Lib.decDigits, dif_neg h1]
      simp
  refine .inr ⟨by simp, ?_⟩
  rw [key]
  rcases h with ⟨rfl, rfl⟩ | ⟨h1, h2⟩
  · simp
  · rcases hm with h0 | h0
    · rw [if_neg (by omega)] at h2
      exact h2
    · exact absurd h0 h1
theorem DQ.fin {u : Nat} {o : List UInt8} (h : DQ u 0 o) (ho : o ≠ []) : o = Lib.decDigits u := by
  rcases h with ⟨rfl, _⟩ | ⟨_, h2⟩
  · exact absurd rfl ho
  · exact h2
theorem DQ.len {u m : Nat} {o : List UInt8} (h : DQ u m o) (hu : u ≤ 18446744073709551615) : o.length ≤ 20 := by
  have hd : (Lib.decDigits u).length ≤ 20 := by
    have := dec_size (u : Int) (by omega) (by omega)
    exact this
  rcases h with ⟨rfl, _⟩ | ⟨_, h2⟩
  · simp
  · have := congrArg List.length h2
    split at this
    · omega
    · rw [List.length_append] at this; omega
theorem conv_one (m : Nat) (wr : World) : (convert 27 9 (.slice (some ⟨wr.heap.size, 0, none⟩) 1 1)).run Tryd.prog (wr.alloc (.cells #[.int .u8 (48 + (m : Int) % 10)] 5)) = .ok (.string (ba [UInt8.ofNat (48 + m % 10)])) (wr.alloc (.cells #[.int .u8 (48 + (m : Int) % 10)] 5)) := by
  have h := run_string (P := Tryd.prog) (w := wr.alloc (.cells #[.int .u8 (48 + (m : Int) % 10)] 5)) (B := wr.heap.size + 1) (A := some ⟨wr.heap.size, 0, none⟩) (xs := [48 + (m : Int) % 10]) (Lst.lit wr _ _) 27 5 9 Tryd.underlying27 Tryd.underlying5 Tryd.underlying9 1
  have e : strOfNums [48 + (m : Int) % 10] = ba [UInt8.ofNat (48 + m % 10)] := by
    refine toList_inj ?_
    rw [Lib.toList_data, strOfNums_data, Lib.toList_data]
    show [UInt8.ofNat (48 + (m : Int) % 10).toNat] = [UInt8.ofNat (48 + m % 10)]
    congr 2
  rw [e] at h
  exact h
theorem ba_cons (c : UInt8) (o : List UInt8) : ba [c] ++ ba o = ba (c :: o) := toList_inj (by rw [Lib.toList_data, dlist, Lib.toList_data]; rfl)

set_option maxRecDepth 100000 in
set_option maxHeartbeats 2000000 in
theorem digits04_any (u : Nat) (hu : u ≤ 18446744073709551615) (w : World) : Calls Tryd.prog 59 #[.int .u64 u] w fun e w' => e = .returned (.string (ba (Lib.decDigits u))) ∧ Below w.heap.size w w' := by
  go_enter Tryd.func59, Tryd.ntmps59
  go_wp2_with fail
  go_loopw [0, 3] (fun n ov wr => ∃ (m : Nat) (o : List UInt8), n = .int .u64 m ∧ ov = .string (ba o) ∧ m ≤ u ∧ o.length ≤ 20 ∧ Hid (DQ u m o) ∧ Hid (Below w.heap.size w wr)) (fun n ov _ => match ov with | .string b => (intOf n).toNat * 2 + (if b.size = 0 then 1 else 0) | _ => 0)
  case atStart => exact ⟨u, [], rfl, rfl, Nat.le_refl _, by simp, Lib.hid (Or.inl ⟨rfl, rfl⟩), Lib.hid (Below.refl _ _)⟩
  case round =>
    obtain ⟨m, o, rfl, rfl, hmu, hol, HQ, HW⟩ := hrel
    by_cases h0 : 0 < m
    · have t0 : decide (0 < (m : Int)) = true := decide_eq_true (by omega)
      have HN := Lib.hid (HQ.out.next (.inl h0))
      have HL := Lib.hid (HN.out.len hu)
      have HWn := Lib.hid (HW.out.alloc HW.out.size (.cells #[.int .u8 (48 + (m : Int) % 10)] 5))
      have hcv := conv_one m wr
      have HBC := Lib.hid (ba_cons (UInt8.ofNat (48 + m % 10)) o)
      have hq : ¬ 9223372036854775807 < (ba [UInt8.ofNat (48 + m % 10)]).size + (ba o).size := by
        have e1 : (ba [UInt8.ofNat (48 + m % 10)]).size = 1 := rfl
        have e2 : (ba o).size = o.length := rfl
        rw [e1, e2]
        simp only [List.length_nil, List.length] at *
        omega
      generalize ba [UInt8.ofNat (48 + m % 10)] = B1 at *
      have HMS : Hid ((intOf (.int .u64 ((m : Int) / 10))).toNat = m / 10) := Lib.hid (by simp only [intOf]; omega)
      generalize hB2 : ba o = B2 at *
      clear hB2
      go_wp2_with fail
      go_roundw
      case rel => exact ⟨m / 10, _, by go_num, by rw [HBC.out], by omega, HL.out, HN, HWn⟩
      case measure =>
        have e0 : (intOf (.int .u64 (m : Int))).toNat = m := by simp [intOf]
        show (intOf (.int .u64 ((m : Int) / 10))).toNat * 2 + (if (B1 ++ B2).size = 0 then 1 else 0) < (intOf (.int .u64 (m : Int))).toNat * 2 + (if B2.size = 0 then 1 else 0)
        rw [HMS.out, e0, HBC.out, if_neg (by show ¬ (UInt8.ofNat (48 + m % 10) :: o).length = 0; simp)]
        omega
    · obtain rfl : m = 0 := by omega
      have t0 : decide ((0 : Int) < ((0 : Nat) : Int)) = false := rfl
      cases h1 : o.isEmpty
      · have hne : o ≠ [] := by rintro rfl; cases h1
        have HF := Lib.hid (HQ.out.fin hne)
        clear hne
        go_wp2_with fail
        go_ret
        exact ⟨by rw [← HF.out]; rfl, HW.out⟩
      · obtain rfl : o = [] := by simpa using h1
        have HN := Lib.hid (HQ.out.next (.inr rfl))
        have HWn := Lib.hid (HW.out.alloc HW.out.size (.cells #[.int .u8 48] 5))
        have hcv := conv_one 0 wr
        have hq : ¬ 9223372036854775807 < (ba [UInt8.ofNat (48 + 0 % 10)]).size + (ba []).size := by
          have e1 : (ba [UInt8.ofNat (48 + 0 % 10)]).size = 1 := rfl
          have e2 : (ba []).size = 0 := rfl
          rw [e1, e2]
          omega
        have HBC := Lib.hid (ba_cons (UInt8.ofNat (48 + 0 % 10)) [])
        have HSZ := Lib.hid (show ¬ (ba [UInt8.ofNat (48 + 0 % 10)]).size = 0 from (by decide))
        generalize hB1 : ba [UInt8.ofNat (48 + 0 % 10)] = B1 at *
        have HB1 := Lib.hid hB1
        clear hB1
        simp only [Int.natCast_zero, Int.zero_emod, Int.add_zero] at hcv
        go_wp2_with fail
        go_roundw
        case rel => exact ⟨0, [UInt8.ofNat (48 + 0 % 10)], rfl, by rw [HBC.out, HB1.out], by omega, by simp, HN, HWn⟩
        case measure =>
          show (intOf (.int .u64 0)).toNat * 2 + (if (B1 ++ ba []).size = 0 then 1 else 0) < (intOf (.int .u64 ((0 : Nat) : Int))).toNat * 2 + 1
          rw [HBC.out, if_neg HSZ.out]
          simp [intOf]
end Go.Proofs.YtbgcbcnidjlhnaaDoor.Eid
/- The contract of the reference's Text. -/
namespace Go.Proofs.YtbgcbcnidjlhnaaDoor.Eid
open Go.RowKit Wd Cb

theorem text_dtn (x : Nm) (h0 : kd x ≠ 0) (h1 : kd x ≠ 1) : textOf x = ((⟨#[100, 116, 110, 58, 47, 47]⟩ : ByteArray) ++ x.host) ++ (⟨#[47]⟩ : ByteArray) ++ x.demux := by
  unfold textOf
  rw [if_neg h0, if_neg h1]
  refine toList_inj ?_
  rw [Lib.toList_data, Lib.toList_data]
  simp only [dlist, path_list, List.append_assoc]
  rfl
theorem ba_dec (n : Int) : ba (Lib.decDigits n.toNat) = dec n := rfl

set_option maxRecDepth 100000 in
set_option maxHeartbeats 4000000 in
theorem text04_any (x : Nm) (hx : x.ok) (hr : right x = true) (w : World) : Calls Tryd.prog 58 #[x.val] w fun e w' => e = .returned (.string (textOf x)) ∧ Below w.heap.size w w' := by
  have CK : Hid (∀ w', Calls Tryd.prog 32 #[x.val] w' fun e w1 => e = .returned (.int .i64 (kd x)) ∧ Below w'.heap.size w' w1) := Lib.hid (fun w' => by
    have c := kind04_any x hx w'
    rw [rk_true hr] at c
    exact c)
  have HT := Lib.hid (show textOf x = if kd x = 0 then ⟨#[100, 116, 110, 58, 110, 111, 110, 101]⟩ else if kd x = 1 then (((⟨#[105, 112, 110, 58]⟩ : ByteArray) ++ dec x.node) ++ (⟨#[46]⟩ : ByteArray)) ++ dec x.service else (⟨#[100, 116, 110, 58]⟩ : ByteArray) ++ pathOf x.host x.demux from rfl)
  have HT3 := Lib.hid (text_dtn x)
  have HRT := Lib.hid (right_texts x hr)
  have HD1 := Lib.hid (dec_size x.node hx.n0 hx.n1)
  have HD2 := Lib.hid (dec_size x.service hx.s0 hx.s1)
  have CF1 : Hid (∀ w', Calls Tryd.prog 59 #[.int .u64 x.node] w' fun e w1 => e = .returned (.string (dec x.node)) ∧ Below w'.heap.size w' w1) := Lib.hid (fun w' => by
    have h := digits04_any x.node.toNat (by have := hx.n1; omega) w'
    rw [Int.toNat_of_nonneg hx.n0, ba_dec] at h
    exact h)
  have CF2 : Hid (∀ w', Calls Tryd.prog 59 #[.int .u64 x.service] w' fun e w1 => e = .returned (.string (dec x.service)) ∧ Below w'.heap.size w' w1) := Lib.hid (fun w' => by
    have h := digits04_any x.service.toNat (by have := hx.s1; omega) w'
    rw [Int.toNat_of_nonneg hx.s0, ba_dec] at h
    exact h)
  have HKC := Lib.hid (kd_cases x)
  clear hx hr
  obtain ⟨i, n, s, h, d⟩ := x
  have HB := Lib.hid ((Below.refl w.heap.size w).alloc (Nat.le_refl _) (.cells #[.bool i, .int .u64 n, .int .u64 s, .string h, .string d] 34))
  have HK := Lib.hid (Blk.new w 34 #[.bool i, .int .u64 n, .int .u64 s, .string h, .string d])
  replace HT : Hid (textOf ⟨i, n, s, h, d⟩ = if kd ⟨i, n, s, h, d⟩ = 0 then ⟨#[100, 116, 110, 58, 110, 111, 110, 101]⟩ else if kd ⟨i, n, s, h, d⟩ = 1 then (((⟨#[105, 112, 110, 58]⟩ : ByteArray) ++ dec n) ++ (⟨#[46]⟩ : ByteArray)) ++ dec s else (⟨#[100, 116, 110, 58]⟩ : ByteArray) ++ pathOf h d) := HT
  replace HT3 : Hid (kd ⟨i, n, s, h, d⟩ ≠ 0 → kd ⟨i, n, s, h, d⟩ ≠ 1 → textOf ⟨i, n, s, h, d⟩ = ((⟨#[100, 116, 110, 58, 47, 47]⟩ : ByteArray) ++ h) ++ (⟨#[47]⟩ : ByteArray) ++ d) := HT3
  replace HRT : Hid (kd ⟨i, n, s, h, d⟩ ≠ 0 → kd ⟨i, n, s, h, d⟩ ≠ 1 → h.size ≤ 1000 ∧ d.size ≤ 1000) := HRT
  replace CF1 : Hid (∀ w', Calls Tryd.prog 59 #[.int .u64 n] w' fun e w1 => e = .returned (.string (dec n)) ∧ Below w'.heap.size w' w1) := CF1
  replace CF2 : Hid (∀ w', Calls Tryd.prog 59 #[.int .u64 s] w' fun e w1 => e = .returned (.string (dec s)) ∧ Below w'.heap.size w' w1) := CF2
  replace HD1 : Hid ((dec n).size ≤ 20) := HD1
  replace HD2 : Hid ((dec s).size ≤ 20) := HD2
  generalize textOf ⟨i, n, s, h, d⟩ = T at *
  generalize kd ⟨i, n, s, h, d⟩ = k at *
  go_enter Tryd.func58, Tryd.ntmps58
  go_wp2_with fail
  refine (CK.out _).mono ?_
  rintro e w2 ⟨rfl, hb2⟩
  have HB2 := Lib.hid (below_next HB.out HB.out.size hb2)
  have HK2 := Lib.hid (HK.out.next hb2)
  obtain ⟨c0, c1, c2, c3, c4⟩ := cells5 HK2.out
  clear hb2 HK HB CK
  by_cases k0 : k = 0
  · subst k0
    have HT2 := Lib.hid (show T = ⟨#[100, 116, 110, 58, 110, 111, 110, 101]⟩ by rw [HT.out]; rfl)
    go_wp2_with fail
    go_ret
    exact ⟨by rw [HT2.out]; rfl, HB2.out⟩
  · have d0 : (k == 0) = false := by simpa using k0
    by_cases k1 : k = 1
    · have HT2 := Lib.hid (show T = (((⟨#[105, 112, 110, 58]⟩ : ByteArray) ++ dec n) ++ (⟨#[46]⟩ : ByteArray)) ++ dec s by rw [HT.out, if_neg k0, if_pos k1])
      subst k1
      clear HT HRT HT3
      generalize dec n = A at *
      generalize dec s = B at *
      have q1 : ¬ 9223372036854775807 < 4 + A.size := by have := HD1.out; omega
      have q2 : ¬ 9223372036854775807 < 4 + A.size + 1 := by have := HD1.out; omega
      have q3 : ¬ 9223372036854775807 < 4 + A.size + 1 + B.size := by have := HD1.out; have := HD2.out; omega
      clear c0 c1 c2 c3 c4 k0
      have KC := Lib.hid (fun (w' : World) (hW : Below w2.heap.size w2 w') => cells5 (HK2.out.below hW HK2.out.lt))
      have HBd := Lib.hid ((Below.refl w2.heap.size w2).drew)
      go_wp2_with fail
      go_region_held3 (fun w' => w'.cell? ⟨w.heap.size, 0, none⟩ = some (.bool i) ∧ w'.cell? ⟨w.heap.size, 1, none⟩ = some (.int .u64 n) ∧ w'.cell? ⟨w.heap.size, 2, none⟩ = some (.int .u64 s) ∧ w'.cell? ⟨w.heap.size, 3, none⟩ = some (.string h) ∧ w'.cell? ⟨w.heap.size, 4, none⟩ = some (.string d))
        (first | with_reducible exact KC.out _ HBd.out | with_reducible exact KC.out _ HB3.out | with_reducible exact KC.out _ HB4.out | fail)
        (first | (go_at_call 59; (with_reducible refine (CF2.out w3).mono ?_); rintro e w4 ⟨rfl, hb4⟩; have HB4 := Lib.hid (below_next HB3.out HB3.out.size hb4); clear hb4) | (go_at_call 59; (with_reducible refine (CF1.out _).mono ?_); rintro e w3 ⟨rfl, hb3⟩; have HB3 := Lib.hid (below_next HBd.out HBd.out.size hb3); clear hb3) | fail)
      go_wp2_with fail
      go_ret
      exact ⟨by rw [HT2.out]; rfl, below_next HB2.out HB2.out.size HB4.out⟩
    · have d1 : (k == 1) = false := by simpa using k1
      have HT2 := Lib.hid (HT3.out k0 k1)
      obtain ⟨z1, z2⟩ := HRT.out k0 k1
      have q1 : ¬ 9223372036854775807 < 6 + h.size := by omega
      have q2 : ¬ 9223372036854775807 < 6 + h.size + 1 := by omega
      have q3 : ¬ 9223372036854775807 < 6 + h.size + 1 + d.size := by omega
      clear k0 k1 HT HT3 HRT z1 z2
      go_wp2_with fail
      go_ret
      exact ⟨by rw [HT2.out]; rfl, HB2.out⟩
end Go.Proofs.YtbgcbcnidjlhnaaDoor.Eid
