/- The fixed calls of layer 4's statements. -/
import Derived.Test.YtoieadbifhealaaDoorParse
import Derived.Test.YtoieadbifhealaaDoorEidW
namespace Go.Proofs.YtoieadbifhealaaDoor.Eid
open Go.RowKit Wd Cb

abbrev nA : Nm := ⟨true, 7, 1, ⟨#[]⟩, ⟨#[]⟩⟩
abbrev nL : Nm := ⟨false, 0, 0, ⟨#[108, 111, 102, 116]⟩, ⟨#[105, 110]⟩⟩
abbrev tA : ByteArray := ⟨#[105, 112, 110, 58, 55, 46, 49]⟩
abbrev tB : ByteArray := ⟨#[105, 112, 110, 58, 48, 55, 46, 49]⟩
abbrev tC : ByteArray := ⟨#[100, 116, 110, 58, 110, 111, 110, 101]⟩
theorem dec_one (n : Nat) (h : n < 10) : dec (n : Int) = ⟨#[UInt8.ofNat (48 + n)]⟩ := by
  unfold dec
  rw [show ((n : Int)).toNat = n by simp, Lib.decDigits_one h]
theorem kd_ipn (n s : Int) (h d : ByteArray) : kd ⟨true, n, s, h, d⟩ = 1 := rfl
theorem right_A : right nA = true := by
  unfold right
  simp only [if_true, Lib.toList_data]
  decide
theorem text_A : textOf nA = tA := by
  unfold textOf
  rw [kd_ipn, if_neg (by decide), if_pos rfl]
  show (((⟨#[105, 112, 110, 58]⟩ : ByteArray) ++ dec ((7 : Nat) : Int)) ++ (⟨#[46]⟩ : ByteArray)) ++ dec ((1 : Nat) : Int) = tA
  rw [dec_one 7 (by omega), dec_one 1 (by omega)]
  rfl
theorem guess_A : guessOf tA.data.toList = nA := by rfl
theorem guess_B : guessOf tB.data.toList = nA := by rfl
theorem guess_C : guessOf tC.data.toList = zeroNm := by rfl
theorem kd_zero : kd zeroNm = 0 := by
  unfold kd
  simp [Lib.toList_data]
theorem right_zero : right zeroNm = true := by
  unfold right
  simp [Lib.toList_data]
theorem text_zero : textOf zeroNm = tC := by
  unfold textOf
  rw [kd_zero, if_pos rfl]
theorem parse_A : parseOf tA = nA ∧ parseE tA = 0 := by
  have h : isName tA = true := by unfold isName; rw [guess_A, right_A, text_A]; decide
  unfold parseOf parseE
  rw [h, guess_A]
  exact ⟨rfl, rfl⟩
theorem parse_B : parseOf tB = zeroNm ∧ parseE tB = 3 := by
  have h : isName tB = false := by unfold isName; rw [guess_B, right_A, text_A]; decide
  unfold parseOf parseE
  rw [h]
  exact ⟨rfl, rfl⟩
theorem parse_C : parseOf tC = zeroNm ∧ parseE tC = 0 := by
  have h : isName tC = true := by unfold isName; rw [guess_C, right_zero, text_zero]; decide
  unfold parseOf parseE
  rw [h, guess_C]
  exact ⟨rfl, rfl⟩
theorem right_L : right nL = true := by
  unfold right rt
  simp only [Bool.false_eq_true, if_false, Lib.toList_data]
  decide
theorem kd_L : kd nL = 2 := by
  unfold kd
  simp only [Bool.false_eq_true, if_false, Lib.toList_data]
  decide
theorem text_L : textOf nL = ⟨#[100, 116, 110, 58, 47, 47, 108, 111, 102, 116, 47, 105, 110]⟩ := by
  unfold textOf
  rw [kd_L, if_neg (by decide), if_neg (by decide)]
  rfl
theorem less_zA : decide (ord zeroNm nA < 0) = true := by
  unfold ord
  rw [kd_zero, kd_ipn]
  decide
theorem ok_A : nA.ok := ⟨by decide, by decide, by decide, by decide, by simp [ByteArray.size], by simp [ByteArray.size]⟩
theorem ok_L : nL.ok := ⟨by decide, by decide, by decide, by decide, by simp [ByteArray.size, maxLen], by simp [ByteArray.size, maxLen]⟩

theorem size_le {w w' : World} (h : Below w.heap.size w w') : w.heap.size ≤ w'.heap.size := h.size
set_option maxRecDepth 100000 in
set_option maxHeartbeats 4000000 in
theorem alive_any (w : World) (G : Gl w) : Calls Tryd.prog 27 #[] w fun e w' => e = .returned (.bool true) ∧ Below w.heap.size w w' := by
  have CPA : Hid (∀ W, Gl W → Calls Tryd.prog 38 #[.string ⟨#[105, 112, 110, 58, 55, 46, 49]⟩] W fun e w' => e = .returned (.tuple #[.agg #[.bool true, .int .u64 7, .int .u64 1, .string ⟨#[]⟩, .string ⟨#[]⟩], .int .i64 0]) ∧ Below W.heap.size W w') := Lib.hid (fun W g => by
    have h := parse_any tA (by decide) W g
    rw [parse_A.1, parse_A.2] at h
    exact h)
  have CPB : Hid (∀ W, Gl W → Calls Tryd.prog 38 #[.string ⟨#[105, 112, 110, 58, 48, 55, 46, 49]⟩] W fun e w' => e = .returned (.tuple #[.agg #[.bool false, .int .u64 0, .int .u64 0, .string ⟨#[]⟩, .string ⟨#[]⟩], .int .i64 3]) ∧ Below W.heap.size W w') := Lib.hid (fun W g => by
    have h := parse_any tB (by decide) W g
    rw [parse_B.1, parse_B.2] at h
    exact h)
  have CPC : Hid (∀ W, Gl W → Calls Tryd.prog 38 #[.string ⟨#[100, 116, 110, 58, 110, 111, 110, 101]⟩] W fun e w' => e = .returned (.tuple #[.agg #[.bool false, .int .u64 0, .int .u64 0, .string ⟨#[]⟩, .string ⟨#[]⟩], .int .i64 0]) ∧ Below W.heap.size W w') := Lib.hid (fun W g => by
    have h := parse_any tC (by decide) W g
    rw [parse_C.1, parse_C.2] at h
    exact h)
  have CTL : Hid (∀ W, Gl W → Calls Tryd.prog 29 #[.agg #[.bool false, .int .u64 0, .int .u64 0, .string ⟨#[108, 111, 102, 116]⟩, .string ⟨#[105, 110]⟩]] W fun e w' => e = .returned (.tuple #[.string ⟨#[100, 116, 110, 58, 47, 47, 108, 111, 102, 116, 47, 105, 110]⟩, .int .i64 0]) ∧ Below W.heap.size W w') := Lib.hid (fun W g => by
    have h := text_any nL ok_L W g
    rw [right_L, text_L] at h
    exact h)
  have CW : Hid (∀ W, Calls Tryd.prog 30 #[.agg #[.bool true, .int .u64 7, .int .u64 1, .string ⟨#[]⟩, .string ⟨#[]⟩]] W fun e w' => ∃ A c A' c', e = .returned (.tuple #[.agg #[.int .i64 4, .int .u64 0, .slice A 0 c, .slice A' 2 c'], .int .i64 0]) ∧ Below W.heap.size W w') := Lib.hid (fun W => by
    refine (write_any nA ok_A W).mono ?_
    rintro e w' ⟨v, rfl, HI, hb⟩
    rw [right_A] at HI ⊢
    have hi := HI.out
    rw [if_pos rfl, show itemOf nA = iL (iN 2) (iL (iN 7) (iN 1)) from rfl] at hi
    obtain ⟨A, c, A', c', rfl, -⟩ := hi.open_
    exact ⟨A, c, A', c', rfl, hb⟩)
  have CL : Hid (∀ W, Calls Tryd.prog 33 #[.agg #[.bool false, .int .u64 0, .int .u64 0, .string ⟨#[]⟩, .string ⟨#[]⟩], .agg #[.bool true, .int .u64 7, .int .u64 1, .string ⟨#[]⟩, .string ⟨#[]⟩]] W fun e w' => e = .returned (.bool true) ∧ Below W.heap.size W w') := Lib.hid (fun W => by
    have h := less_any zeroNm nA W
    rw [less_zA] at h
    exact h)
  have HG := Lib.hid G
  clear G
  go_enter Tryd.func27, Tryd.ntmps27
  go_wp2_with fail
  refine (CPA.out _ HG.out).mono ?_
  rintro e w1 ⟨rfl, hb1⟩
  have HB1 := Lib.hid (hb1.alloc hb1.size (.cells #[.bool true, .int .u64 7, .int .u64 1, .string ⟨#[]⟩, .string ⟨#[]⟩] 51))
  have HK1 := Lib.hid (Blk.new w1 51 #[.bool true, .int .u64 7, .int .u64 1, .string ⟨#[]⟩, .string ⟨#[]⟩])
  have HG1 := Lib.hid (HG.out.below HB1.out)
  clear hb1
  go_wp2_with fail
  refine (CTL.out _ HG1.out).mono ?_
  rintro e w2 ⟨rfl, hb2⟩
  have HB2 := Lib.hid (below_next HB1.out HB1.out.size hb2)
  have HK2 := Lib.hid (HK1.out.next hb2)
  have HG2 := Lib.hid (HG1.out.below hb2)
  clear hb2 HB1 HK1 HG1
  go_wp2_with fail
  refine (CPB.out _ HG2.out).mono ?_
  rintro e w3 ⟨rfl, hb3⟩
  have HB3 := Lib.hid ((below_next HB2.out HB2.out.size hb3).alloc (Nat.le_trans HB2.out.size hb3.size) (.cells #[.bool false, .int .u64 0, .int .u64 0, .string ⟨#[]⟩, .string ⟨#[]⟩] 51))
  have HK3 := Lib.hid ((HK2.out.next hb3).alloc (.cells #[.bool false, .int .u64 0, .int .u64 0, .string ⟨#[]⟩, .string ⟨#[]⟩] 51))
  have HG3 := Lib.hid (HG.out.below HB3.out)
  clear hb3 HB2 HK2 HG2
  go_wp2_with fail
  refine (CPC.out _ HG3.out).mono ?_
  rintro e w4 ⟨rfl, hb4⟩
  have HB4 := Lib.hid ((below_next HB3.out HB3.out.size hb4).alloc (Nat.le_trans HB3.out.size hb4.size) (.cells #[.bool false, .int .u64 0, .int .u64 0, .string ⟨#[]⟩, .string ⟨#[]⟩] 51))
  have HK4 := Lib.hid ((HK3.out.next hb4).alloc (.cells #[.bool false, .int .u64 0, .int .u64 0, .string ⟨#[]⟩, .string ⟨#[]⟩] 51))
  have HC4 := Lib.hid (Blk.new w4 51 #[.bool false, .int .u64 0, .int .u64 0, .string ⟨#[]⟩, .string ⟨#[]⟩])
  clear hb4 HB3 HK3 HG3
  obtain ⟨c0, c1, c2, c3, c4⟩ := cells5 HK4.out
  go_wp2_with fail
  refine (CW.out _).mono ?_
  rintro e w5 ⟨A, c, A', c', rfl, hb5⟩
  have HB5 := Lib.hid ((below_next HB4.out HB4.out.size hb5).alloc (Nat.le_trans HB4.out.size hb5.size) (.cells #[.int .i64 4, .int .u64 0, .slice A 0 c, .slice A' 2 c'] 26))
  have HK5 := Lib.hid ((HK4.out.next hb5).alloc (.cells #[.int .i64 4, .int .u64 0, .slice A 0 c, .slice A' 2 c'] 26))
  have HC5 := Lib.hid ((HC4.out.next hb5).alloc (.cells #[.int .i64 4, .int .u64 0, .slice A 0 c, .slice A' 2 c'] 26))
  have HI5 := Lib.hid (Blk.new w5 26 #[.int .i64 4, .int .u64 0, .slice A 0 c, .slice A' 2 c'])
  clear c0 c1 c2 c3 c4 hb5 HB4 HK4 HC4
  obtain ⟨c0, c1, c2, c3, c4⟩ := cells5 HK5.out
  obtain ⟨d0, d1, d2, d3, d4⟩ := cells5 HC5.out
  obtain ⟨i0, i1, i2, i3⟩ := cell4 HI5.out
  go_wp2_with fail
  refine (CL.out _).mono ?_
  rintro e w6 ⟨rfl, hb6⟩
  have HB6 := Lib.hid (below_next HB5.out HB5.out.size hb6)
  clear hb6 c0 c1 c2 c3 c4 d0 d1 d2 d3 d4 i0 i1 i2 i3
  go_wp2_with fail
  go_ret
  exact ⟨rfl, HB6.out⟩
end Go.Proofs.YtoieadbifhealaaDoor.Eid
