/- The contract of the reference's Parse. -/
import Derived.Test.YtbgcbcnidjlhnaaDoorZm8
namespace Go.Proofs.YtbgcbcnidjlhnaaDoor.Eid
open Go.RowKit Wd Cb EidL

theorem rp_val {s : ByteArray} {g : Nm} (h : s ≠ ⟨#[100, 116, 110, 58, 110, 111, 110, 101]⟩) (hg : rpGuess s.data.toList = some g) : rpVal s = (if fits g s then g else zeroNm) ∧ rpOk s = fits g s := by
  unfold rpVal rpOk
  rw [if_neg h, if_neg h, hg]
  exact ⟨rfl, rfl⟩
theorem rp_none {s : ByteArray} (h : s ≠ ⟨#[100, 116, 110, 58, 110, 111, 110, 101]⟩) (hg : rpGuess s.data.toList = none) : rpVal s = zeroNm ∧ rpOk s = false := by
  unfold rpVal rpOk
  rw [if_neg h, if_neg h, hg]
  exact ⟨rfl, rfl⟩
theorem take_ext (s : ByteArray) (k : Nat) : (s.extract 0 k).toList = s.data.toList.take k := by
  rw [Lib.extract_toList]
  simp
theorem guess_ipn {l : List UInt8} (h : isIpn l = true) : rpGuess l = some (rpNum l) := by unfold rpGuess; rw [h]; rfl
theorem guess_end {l : List UInt8} (h : isIpn l = false) (h2 : isDtn l = true) (h3 : 6 + slash (l.drop 6) = l.length) : rpGuess l = none := by unfold rpGuess; rw [h, h2, if_neg (by decide), if_pos rfl, if_pos h3]
theorem guess_dtn {l : List UInt8} (h : isIpn l = false) (h2 : isDtn l = true) (h3 : 6 + slash (l.drop 6) ≠ l.length) : rpGuess l = some (rpTxt l) := by unfold rpGuess; rw [h, h2, if_neg (by decide), if_pos rfl, if_neg h3]
theorem guess_no {l : List UInt8} (h : isIpn l = false) (h2 : isDtn l = false) : rpGuess l = some zeroNm := by unfold rpGuess; rw [h, h2, if_neg (by decide), if_neg (by decide)]
theorem kd_zeroNm : kd zeroNm = 0 := kd_zero

theorem set5_far {w : World} {g g' : Nat} {t : TypeId} {cs : Array Value} (h : Blk w g t cs) (hn : g ≠ g') (a b c d e : Value) : Blk (set5 w g' a b c d e) g t cs :=
  ((((h.far (p := ⟨g', 0, none⟩) hn a).far (p := ⟨g', 1, none⟩) hn b).far (p := ⟨g', 2, none⟩) hn c).far (p := ⟨g', 3, none⟩) hn d).far (p := ⟨g', 4, none⟩) hn e

set_option maxRecDepth 100000 in
set_option maxHeartbeats 8000000 in
theorem parse04_any (s : ByteArray) (hs : s.size ≤ 100000) (w : World) : Calls Tryd.prog 83 #[.string s] w fun e w' => e = .returned (.tuple #[(rpVal s).val, .bool (rpOk s)]) ∧ Below w.heap.size w w' := by
  have HB := Lib.hid ((Below.refl w.heap.size w).alloc (Nat.le_refl _) (.cells #[.bool false, .int .u64 0, .int .u64 0, .string ⟨#[]⟩, .string ⟨#[]⟩] 34))
  have HZ := Lib.hid (Blk.new w 34 #[.bool false, .int .u64 0, .int .u64 0, .string ⟨#[]⟩, .string ⟨#[]⟩])
  have hsl : s.data.toList.length = s.size := (Lib.size_eq s).symm
  cases h0 : (s.toList == [100, 116, 110, 58, 110, 111, 110, 101])
  rotate_left
  · have hd : s = ⟨#[100, 116, 110, 58, 110, 111, 110, 101]⟩ := toList_inj (by rw [Lib.toList_data ⟨#[100, 116, 110, 58, 110, 111, 110, 101]⟩]; simpa using h0)
    have HR := Lib.hid (show (rpVal s).val = zeroNm.val by unfold rpVal; rw [if_pos hd])
    have HE := Lib.hid (show rpOk s = true by unfold rpOk; rw [if_pos hd])
    clear hd hsl
    go_enter Tryd.func83, Tryd.ntmps83
    go_wp2_with fail
    refine bodyPost_ret (v := .tuple #[(rpVal s).val, .bool (rpOk s)]) (by rw [HR.out, HE.out]; simp [results, Tryd.results83, go_sem, *]) rfl ⟨rfl, HB.out⟩
  · have HND : Hid (s ≠ ⟨#[100, 116, 110, 58, 110, 111, 110, 101]⟩) := Lib.hid (by rintro rfl; rw [Lib.toList_data] at h0; cases h0)
    have HB2 := Lib.hid (HB.out.alloc HB.out.size (.cells #[.bool false, .int .u64 0, .int .u64 0, .string ⟨#[]⟩, .string ⟨#[]⟩] 34))
    have HZ2 := Lib.hid (HZ.out.alloc (.cells #[.bool false, .int .u64 0, .int .u64 0, .string ⟨#[]⟩, .string ⟨#[]⟩] 34))
    have HX2 := Lib.hid (Blk.new (w.alloc (.cells #[.bool false, .int .u64 0, .int .u64 0, .string ⟨#[]⟩, .string ⟨#[]⟩] 34)) 34 #[.bool false, .int .u64 0, .int .u64 0, .string ⟨#[]⟩, .string ⟨#[]⟩])
    rw [World.size_alloc] at HX2
    clear HB HZ
    go_enter Tryd.func83, Tryd.ntmps83
    go_upto_region 4 with (fail)
    clear h0
    generalize (w.alloc (.cells #[.bool false, .int .u64 0, .int .u64 0, .string ⟨#[]⟩, .string ⟨#[]⟩] 34)).alloc (.cells #[.bool false, .int .u64 0, .int .u64 0, .string ⟨#[]⟩, .string ⟨#[]⟩] 34) = W at *
    have hcI : isIpn s.data.toList = (decide (4 < (s.size : Int)) && ((s.extract 0 4).toList == [105, 112, 110, 58])) := by
      unfold isIpn
      rw [hsl, take_ext]
      congr 1
      exact decide_eq_decide.2 (by omega)
    have hcD : isDtn s.data.toList = (decide (6 < (s.size : Int)) && ((s.extract 0 6).toList == [100, 116, 110, 58, 47, 47])) := by
      unfold isDtn
      rw [hsl, take_ext]
      congr 1
      exact decide_eq_decide.2 (by omega)
    have HCI := Lib.hid hcI
    have HCD := Lib.hid hcD
    have HSL := Lib.hid hsl
    have HX2F := Lib.hid (froz5 HX2.out)
    have HX2C := Lib.hid (cells5 HX2.out)
    clear hcI hcD hsl
    cases hI : isIpn s.data.toList
    rotate_left
    · have HG := Lib.hid (guess_ipn hI)
      have hI2 := HCI.out
      rw [hI] at hI2
      simp only [Bool.true_eq, Bool.and_eq_true] at hI2
      obtain ⟨t1, t2⟩ := hI2
      have HV0 := Lib.hid (rp_val HND.out HG.out)
      have h46 : 4 ≤ s.size := by have := of_decide_eq_true t1; omega
      have CN1 := Lib.hid (number_any s 4 (by omega) hs W)
      have hNl := numL_len 11 0 (s.data.toList.drop 4)
      rw [List.length_drop, HSL.out] at hNl
      have hNQ : rpNum s.data.toList = ⟨true, (numL 11 0 (s.data.toList.drop 4)).1, if 4 + (numL 11 0 (s.data.toList.drop 4)).2 < s.data.toList.length then (numL 11 0 (s.data.toList.drop (4 + (numL 11 0 (s.data.toList.drop 4)).2 + 1))).1 else (0 : Nat), ⟨#[]⟩, ⟨#[]⟩⟩ := rfl
      rw [HSL.out] at hNQ
      have HNQ := Lib.hid hNQ
      have HOK := Lib.hid (rpNum_ok s.data.toList)
      clear hI hNQ HCI HCD HG HND
      generalize hq : numL 11 0 (s.data.toList.drop 4) = q at *
      obtain ⟨q1, q2⟩ := q
      have HQ := Lib.hid hq
      clear hq
      simp only at hNl
      have CN1' : Hid (Calls Tryd.prog 113 #[.string s, .int .i64 4] W fun e w' => e = .returned (.tuple #[.int .u64 q1, .int .i64 ((4 + q2 : Nat) : Int)]) ∧ w' = W) := CN1
      have HNQ' : Hid (rpNum s.data.toList = ⟨true, q1, if 4 + q2 < s.size then (numL 11 0 (s.data.toList.drop (4 + q2 + 1))).1 else (0 : Nat), ⟨#[]⟩, ⟨#[]⟩⟩) := HNQ
      clear CN1 HNQ HQ
      generalize rpNum s.data.toList = cand at *
      generalize 4 + q2 = a2 at *
      have HVL := Lib.hid HV0.out.1
      have HOL := Lib.hid HV0.out.2
      clear HV0
      have j4 : (4 : Int) ≤ (s.size : Int) := by omega
      go_wp2_with fail
      refine CN1'.out.mono ?_
      rintro e w1 ⟨rfl, hw1⟩
      have hw2 := hw1.symm
      subst hw2
      clear hw1
      clear CN1' t1 t2
      by_cases h2 : a2 < s.size
      · have t3 : decide ((a2 : Int) < (s.size : Int)) = true := decide_eq_true (by omega)
        have CN2 := number_any s (a2 + 1) (by omega) hs W
        rw [show ((a2 + 1 : Nat) : Int) = (a2 : Int) + 1 by omega] at CN2
        have HNQ2 : Hid (cand = ⟨true, q1, (numL 11 0 (s.data.toList.drop (a2 + 1))).1, ⟨#[]⟩, ⟨#[]⟩⟩) := Lib.hid (by rw [HNQ'.out, if_pos h2])
        have hlt : numL 11 0 (s.data.toList.drop (a2 + 1)) = ((numL 11 0 (s.data.toList.drop (a2 + 1))).1, (numL 11 0 (s.data.toList.drop (a2 + 1))).2) := rfl
        generalize (numL 11 0 (s.data.toList.drop (a2 + 1))).1 = q3 at *
        generalize (numL 11 0 (s.data.toList.drop (a2 + 1))).2 = q4 at *
        have HCN2 := Lib.hid CN2
        have HC := HNQ2.out
        subst HC
        clear HNQ' HNQ2 CN2 hlt
        go_wp2_with fail
        refine HCN2.out.mono ?_
        rintro e w1 ⟨rfl, hw1⟩
        have hw2 := hw1.symm
        subst hw2
        clear hw1
        clear HCN2
        obtain ⟨x0, x1, x2, x3, x4⟩ := HX2C.out
        obtain ⟨g0, g1, g2, g3, g4⟩ := HX2F.out
        have HX3 := Lib.hid (set5_blk HX2.out (.bool true) (.int .u64 q1) (.int .u64 q3) (.string ⟨#[]⟩) (.string ⟨#[]⟩))
        have HB3 := Lib.hid (set5_below HB2.out (Nat.le_succ _) (.bool true) (.int .u64 q1) (.int .u64 q3) (.string ⟨#[]⟩) (.string ⟨#[]⟩))
        have HZ3 := Lib.hid (set5_far HZ2.out (Nat.ne_of_lt (Nat.lt_succ_self _)) (.bool true) (.int .u64 q1) (.int .u64 q3) (.string ⟨#[]⟩) (.string ⟨#[]⟩))
        go_upto_region 17 with (fail)
        clear x0 x1 x2 x3 x4 g0 g1 g2 g3 g4 HX2 HB2 HZ2 HX2C HX2F
        generalize hW3 : set5 W (w.heap.size + 1) (.bool true) (.int .u64 q1) (.int .u64 q3) (.string ⟨#[]⟩) (.string ⟨#[]⟩) = W3 at HX3 HB3 HZ3
        unfold set5 at hW3
        rw [hW3]
        generalize hcd : (⟨true, q1, q3, ⟨#[]⟩, ⟨#[]⟩⟩ : Nm) = cand at *
        have HX3' : Hid (Blk W3 (w.heap.size + 1) 34 cand.cells) := Lib.hid (by rw [← hcd]; exact HX3.out)
        clear HX3 hcd hW3 j4
        have HX3 := HX3'
        clear HX3'
        have CK := Lib.hid (fun w' => kind04_any cand HOK.out w')
        have CTx := Lib.hid (fun hr w' => text04_any cand HOK.out hr w')
        have HFT : Hid (fits cand s = (right cand && decide (1 ≤ kd cand) && decide (textOf cand = s))) := Lib.hid rfl
        have HRK : Hid (rk cand = if right cand then kd cand else -1) := Lib.hid rfl
        generalize right cand = r at *
        generalize kd cand = kdc at *
        generalize rk cand = K at *
        generalize textOf cand = T at *
        generalize fits cand s = F at *
        clear HOK
        obtain ⟨i, n, s5, hh, d⟩ := cand
        obtain ⟨x0, x1, x2, x3, x4⟩ := cells5 HX3.out
        go_wp2_with fail
        refine (CK.out W3).mono ?_
        rintro e w4 ⟨rfl, hb4⟩
        have HB4 := Lib.hid (below_next HB3.out HB3.out.size hb4)
        have HZ4 := Lib.hid (HZ3.out.next hb4)
        have HX4 := Lib.hid (HX3.out.next hb4)
        clear hb4 x0 x1 x2 x3 x4 HB3 HZ3 HX3 CK
        by_cases hK : K < 1
        · have t8 : decide (K < 1) = true := decide_eq_true hK
          have hF : F = false := by
            cases r
            · rw [HFT.out]; rfl
            · have e : K = kdc := HRK.out
              rw [HFT.out, decide_eq_false (show ¬ 1 ≤ kdc by omega)]
              rfl
          have HR := Lib.hid (show (rpVal s).val = zeroNm.val by rw [HVL.out, hF]; rfl)
          have HE := Lib.hid (show rpOk s = false by rw [HOL.out, hF])
          clear hK hF HFT HRK CTx HX4
          obtain ⟨c0, c1, c2, c3, c4⟩ := cells5 HZ4.out
          obtain ⟨f0, f1, f2, f3, f4⟩ := froz5 HZ4.out
          go_wp2_with fail
          have HK9 := Lib.hid (set5_blk HZ4.out (.bool false) (.int .u64 0) (.int .u64 0) (.string ⟨#[]⟩) (.string ⟨#[]⟩))
          have HB9 := Lib.hid (set5_below HB4.out (Nat.le_refl _) (.bool false) (.int .u64 0) (.int .u64 0) (.string ⟨#[]⟩) (.string ⟨#[]⟩))
          clear c0 c1 c2 c3 c4 f0 f1 f2 f3 f4
          generalize hW9 : set5 w4 w.heap.size (.bool false) (.int .u64 0) (.int .u64 0) (.string ⟨#[]⟩) (.string ⟨#[]⟩) = W9 at HK9 HB9
          unfold set5 at hW9
          rw [hW9]
          obtain ⟨c0, c1, c2, c3, c4⟩ := cells5 HK9.out
          refine bodyPost_ret (v := .tuple #[(rpVal s).val, .bool (rpOk s)]) (by rw [HR.out, HE.out]; simp [results, Tryd.results83, go_sem, *]) rfl ⟨rfl, HB9.out⟩
        · have t8 : decide (K < 1) = false := decide_eq_false hK
          have hr : r = true := by
            cases r
            · have e : K = -1 := HRK.out
              omega
            · rfl
          subst hr
          have e1 : K = kdc := HRK.out
          have HF2 : Hid (F = decide (T = s)) := Lib.hid (by rw [HFT.out, decide_eq_true (show 1 ≤ kdc by omega)]; rfl)
          have CT2 := Lib.hid (CTx.out (by first | rfl | trivial))
          clear hK HFT HRK CTx e1
          obtain ⟨x0, x1, x2, x3, x4⟩ := cells5 HX4.out
          go_wp2_with fail
          refine (CT2.out w4).mono ?_
          rintro e w5 ⟨rfl, hb5⟩
          have HB5 := Lib.hid (below_next HB4.out HB4.out.size hb5)
          have HZ5 := Lib.hid (HZ4.out.next hb5)
          have HX5 := Lib.hid (HX4.out.next hb5)
          clear hb5 x0 x1 x2 x3 x4 HB4 HZ4 HX4 CT2
          obtain ⟨c0, c1, c2, c3, c4⟩ := cells5 HZ5.out
          obtain ⟨f0, f1, f2, f3, f4⟩ := froz5 HZ5.out
          cases h9 : (T.toList == s.toList)
          · have hT : T ≠ s := by rintro rfl; simp at h9
            have HR := Lib.hid (show (rpVal s).val = zeroNm.val by rw [HVL.out, HF2.out, decide_eq_false hT]; rfl)
            have HE := Lib.hid (show rpOk s = false by rw [HOL.out, HF2.out, decide_eq_false hT])
            clear hT HF2
            go_wp2_with fail
            have HK9 := Lib.hid (set5_blk HZ5.out (.bool false) (.int .u64 0) (.int .u64 0) (.string ⟨#[]⟩) (.string ⟨#[]⟩))
            have HB9 := Lib.hid (set5_below HB5.out (Nat.le_refl _) (.bool false) (.int .u64 0) (.int .u64 0) (.string ⟨#[]⟩) (.string ⟨#[]⟩))
            clear c0 c1 c2 c3 c4 f0 f1 f2 f3 f4
            generalize hW9 : set5 w5 w.heap.size (.bool false) (.int .u64 0) (.int .u64 0) (.string ⟨#[]⟩) (.string ⟨#[]⟩) = W9 at HK9 HB9
            unfold set5 at hW9
            rw [hW9]
            obtain ⟨c0, c1, c2, c3, c4⟩ := cells5 HK9.out
            refine bodyPost_ret (v := .tuple #[(rpVal s).val, .bool (rpOk s)]) (by rw [HR.out, HE.out]; simp [results, Tryd.results83, go_sem, *]) rfl ⟨rfl, HB9.out⟩
          · have hT : T = s := toList_inj (by simpa using h9)
            have HR := Lib.hid (show (rpVal s).val = Nm.val ⟨i, n, s5, hh, d⟩ by rw [HVL.out, HF2.out, decide_eq_true hT]; rfl)
            have HE := Lib.hid (show rpOk s = true by rw [HOL.out, HF2.out, decide_eq_true hT])
            clear hT HF2
            obtain ⟨x0, x1, x2, x3, x4⟩ := cells5 HX5.out
            go_wp2_with fail
            have HK9 := Lib.hid (set5_blk HZ5.out (.bool i) (.int .u64 n) (.int .u64 s5) (.string hh) (.string d))
            have HB9 := Lib.hid (set5_below HB5.out (Nat.le_refl _) (.bool i) (.int .u64 n) (.int .u64 s5) (.string hh) (.string d))
            clear c0 c1 c2 c3 c4 f0 f1 f2 f3 f4 x0 x1 x2 x3 x4
            generalize hW9 : set5 w5 w.heap.size (.bool i) (.int .u64 n) (.int .u64 s5) (.string hh) (.string d) = W9 at HK9 HB9
            unfold set5 at hW9
            rw [hW9]
            obtain ⟨c0, c1, c2, c3, c4⟩ := cells5 HK9.out
            refine bodyPost_ret (v := .tuple #[(rpVal s).val, .bool (rpOk s)]) (by rw [HR.out, HE.out]; simp [results, Tryd.results83, go_sem, *]) rfl ⟨rfl, HB9.out⟩
      · have t3 : decide ((a2 : Int) < (s.size : Int)) = false := decide_eq_false (by omega)
        have HNQ2 : Hid (cand = ⟨true, q1, 0, ⟨#[]⟩, ⟨#[]⟩⟩) := Lib.hid (by rw [HNQ'.out, if_neg h2]; rfl)
        have HC := HNQ2.out
        subst HC
        clear HNQ' HNQ2
        obtain ⟨x0, x1, x2, x3, x4⟩ := HX2C.out
        obtain ⟨g0, g1, g2, g3, g4⟩ := HX2F.out
        have HX3 := Lib.hid (set5_blk HX2.out (.bool true) (.int .u64 q1) (.int .u64 0) (.string ⟨#[]⟩) (.string ⟨#[]⟩))
        have HB3 := Lib.hid (set5_below HB2.out (Nat.le_succ _) (.bool true) (.int .u64 q1) (.int .u64 0) (.string ⟨#[]⟩) (.string ⟨#[]⟩))
        have HZ3 := Lib.hid (set5_far HZ2.out (Nat.ne_of_lt (Nat.lt_succ_self _)) (.bool true) (.int .u64 q1) (.int .u64 0) (.string ⟨#[]⟩) (.string ⟨#[]⟩))
        go_upto_region 17 with (fail)
        clear x0 x1 x2 x3 x4 g0 g1 g2 g3 g4 HX2 HB2 HZ2 HX2C HX2F
        generalize hW3 : set5 W (w.heap.size + 1) (.bool true) (.int .u64 q1) (.int .u64 0) (.string ⟨#[]⟩) (.string ⟨#[]⟩) = W3 at HX3 HB3 HZ3
        unfold set5 at hW3
        rw [hW3]
        generalize hcd : (⟨true, q1, 0, ⟨#[]⟩, ⟨#[]⟩⟩ : Nm) = cand at *
        have HX3' : Hid (Blk W3 (w.heap.size + 1) 34 cand.cells) := Lib.hid (by rw [← hcd]; exact HX3.out)
        clear HX3 hcd hW3 j4
        have HX3 := HX3'
        clear HX3'
        have CK := Lib.hid (fun w' => kind04_any cand HOK.out w')
        have CTx := Lib.hid (fun hr w' => text04_any cand HOK.out hr w')
        have HFT : Hid (fits cand s = (right cand && decide (1 ≤ kd cand) && decide (textOf cand = s))) := Lib.hid rfl
        have HRK : Hid (rk cand = if right cand then kd cand else -1) := Lib.hid rfl
        generalize right cand = r at *
        generalize kd cand = kdc at *
        generalize rk cand = K at *
        generalize textOf cand = T at *
        generalize fits cand s = F at *
        clear HOK
        obtain ⟨i, n, s5, hh, d⟩ := cand
        obtain ⟨x0, x1, x2, x3, x4⟩ := cells5 HX3.out
        go_wp2_with fail
        refine (CK.out W3).mono ?_
        rintro e w4 ⟨rfl, hb4⟩
        have HB4 := Lib.hid (below_next HB3.out HB3.out.size hb4)
        have HZ4 := Lib.hid (HZ3.out.next hb4)
        have HX4 := Lib.hid (HX3.out.next hb4)
        clear hb4 x0 x1 x2 x3 x4 HB3 HZ3 HX3 CK
        by_cases hK : K < 1
        · have t8 : decide (K < 1) = true := decide_eq_true hK
          have hF : F = false := by
            cases r
            · rw [HFT.out]; rfl
            · have e : K = kdc := HRK.out
              rw [HFT.out, decide_eq_false (show ¬ 1 ≤ kdc by omega)]
              rfl
          have HR := Lib.hid (show (rpVal s).val = zeroNm.val by rw [HVL.out, hF]; rfl)
          have HE := Lib.hid (show rpOk s = false by rw [HOL.out, hF])
          clear hK hF HFT HRK CTx HX4
          obtain ⟨c0, c1, c2, c3, c4⟩ := cells5 HZ4.out
          obtain ⟨f0, f1, f2, f3, f4⟩ := froz5 HZ4.out
          go_wp2_with fail
          have HK9 := Lib.hid (set5_blk HZ4.out (.bool false) (.int .u64 0) (.int .u64 0) (.string ⟨#[]⟩) (.string ⟨#[]⟩))
          have HB9 := Lib.hid (set5_below HB4.out (Nat.le_refl _) (.bool false) (.int .u64 0) (.int .u64 0) (.string ⟨#[]⟩) (.string ⟨#[]⟩))
          clear c0 c1 c2 c3 c4 f0 f1 f2 f3 f4
          generalize hW9 : set5 w4 w.heap.size (.bool false) (.int .u64 0) (.int .u64 0) (.string ⟨#[]⟩) (.string ⟨#[]⟩) = W9 at HK9 HB9
          unfold set5 at hW9
          rw [hW9]
          obtain ⟨c0, c1, c2, c3, c4⟩ := cells5 HK9.out
          refine bodyPost_ret (v := .tuple #[(rpVal s).val, .bool (rpOk s)]) (by rw [HR.out, HE.out]; simp [results, Tryd.results83, go_sem, *]) rfl ⟨rfl, HB9.out⟩
        · have t8 : decide (K < 1) = false := decide_eq_false hK
          have hr : r = true := by
            cases r
            · have e : K = -1 := HRK.out
              omega
            · rfl
          subst hr
          have e1 : K = kdc := HRK.out
          have HF2 : Hid (F = decide (T = s)) := Lib.hid (by rw [HFT.out, decide_eq_true (show 1 ≤ kdc by omega)]; rfl)
          have CT2 := Lib.hid (CTx.out (by first | rfl | trivial))
          clear hK HFT HRK CTx e1
          obtain ⟨x0, x1, x2, x3, x4⟩ := cells5 HX4.out
          go_wp2_with fail
          refine (CT2.out w4).mono ?_
          rintro e w5 ⟨rfl, hb5⟩
          have HB5 := Lib.hid (below_next HB4.out HB4.out.size hb5)
          have HZ5 := Lib.hid (HZ4.out.next hb5)
          have HX5 := Lib.hid (HX4.out.next hb5)
          clear hb5 x0 x1 x2 x3 x4 HB4 HZ4 HX4 CT2
          obtain ⟨c0, c1, c2, c3, c4⟩ := cells5 HZ5.out
          obtain ⟨f0, f1, f2, f3, f4⟩ := froz5 HZ5.out
          cases h9 : (T.toList == s.toList)
          · have hT : T ≠ s := by rintro rfl; simp at h9
            have HR := Lib.hid (show (rpVal s).val = zeroNm.val by rw [HVL.out, HF2.out, decide_eq_false hT]; rfl)
            have HE := Lib.hid (show rpOk s = false by rw [HOL.out, HF2.out, decide_eq_false hT])
            clear hT HF2
            go_wp2_with fail
            have HK9 := Lib.hid (set5_blk HZ5.out (.bool false) (.int .u64 0) (.int .u64 0) (.string ⟨#[]⟩) (.string ⟨#[]⟩))
            have HB9 := Lib.hid (set5_below HB5.out (Nat.le_refl _) (.bool false) (.int .u64 0) (.int .u64 0) (.string ⟨#[]⟩) (.string ⟨#[]⟩))
            clear c0 c1 c2 c3 c4 f0 f1 f2 f3 f4
            generalize hW9 : set5 w5 w.heap.size (.bool false) (.int .u64 0) (.int .u64 0) (.string ⟨#[]⟩) (.string ⟨#[]⟩) = W9 at HK9 HB9
            unfold set5 at hW9
            rw [hW9]
            obtain ⟨c0, c1, c2, c3, c4⟩ := cells5 HK9.out
            refine bodyPost_ret (v := .tuple #[(rpVal s).val, .bool (rpOk s)]) (by rw [HR.out, HE.out]; simp [results, Tryd.results83, go_sem, *]) rfl ⟨rfl, HB9.out⟩
          · have hT : T = s := toList_inj (by simpa using h9)
            have HR := Lib.hid (show (rpVal s).val = Nm.val ⟨i, n, s5, hh, d⟩ by rw [HVL.out, HF2.out, decide_eq_true hT]; rfl)
            have HE := Lib.hid (show rpOk s = true by rw [HOL.out, HF2.out, decide_eq_true hT])
            clear hT HF2
            obtain ⟨x0, x1, x2, x3, x4⟩ := cells5 HX5.out
            go_wp2_with fail
            have HK9 := Lib.hid (set5_blk HZ5.out (.bool i) (.int .u64 n) (.int .u64 s5) (.string hh) (.string d))
            have HB9 := Lib.hid (set5_below HB5.out (Nat.le_refl _) (.bool i) (.int .u64 n) (.int .u64 s5) (.string hh) (.string d))
            clear c0 c1 c2 c3 c4 f0 f1 f2 f3 f4 x0 x1 x2 x3 x4
            generalize hW9 : set5 w5 w.heap.size (.bool i) (.int .u64 n) (.int .u64 s5) (.string hh) (.string d) = W9 at HK9 HB9
            unfold set5 at hW9
            rw [hW9]
            obtain ⟨c0, c1, c2, c3, c4⟩ := cells5 HK9.out
            refine bodyPost_ret (v := .tuple #[(rpVal s).val, .bool (rpOk s)]) (by rw [HR.out, HE.out]; simp [results, Tryd.results83, go_sem, *]) rfl ⟨rfl, HB9.out⟩
    · have hI2 := HCI.out
      rw [hI] at hI2
      have D1 : decide (4 < (s.size : Int)) = false ∨ (decide (4 < (s.size : Int)) = true ∧ ((s.extract 0 4).toList == [105, 112, 110, 58]) = false ∧ 4 ≤ (s.size : Int)) := by
        cases h4 : decide (4 < (s.size : Int))
        · exact .inl rfl
        · rw [h4] at hI2
          exact .inr ⟨rfl, hI2.symm, by have := of_decide_eq_true h4; omega⟩
      clear hI2
      rcases D1 with t1 | ⟨t1, t2, j4⟩
      all_goals
        go_upto_region 10 with (fail)
        cases hD : isDtn s.data.toList
        · have HGc := Lib.hid (guess_no hI hD)
          have HV0 := Lib.hid (rp_val HND.out HGc.out)
          obtain ⟨cand, hcand⟩ : ∃ c, c = zeroNm := ⟨_, rfl⟩
          have HVL : Hid (rpVal s = if fits cand s then cand else zeroNm) := Lib.hid (by rw [hcand]; exact HV0.out.1)
          have HOL : Hid (rpOk s = fits cand s) := Lib.hid (by rw [hcand]; exact HV0.out.2)
          have hD2 := HCD.out
          rw [hD] at hD2
          have D2 : decide (6 < (s.size : Int)) = false ∨ (decide (6 < (s.size : Int)) = true ∧ ((s.extract 0 6).toList == [100, 116, 110, 58, 47, 47]) = false ∧ 6 ≤ (s.size : Int)) := by
            cases h6 : decide (6 < (s.size : Int))
            · exact .inl rfl
            · rw [h6] at hD2
              exact .inr ⟨rfl, hD2.symm, by have := of_decide_eq_true h6; omega⟩
          have HOK : Hid cand.ok := Lib.hid (by rw [hcand]; exact zero_ok)
          have HX2' : Hid (Blk W (w.heap.size + 1) 34 cand.cells) := Lib.hid (by rw [hcand]; exact HX2.out)
          clear HX2 hcand hD2 HV0 HGc hD hI HCI HCD HND
          have HX2 := HX2'
          clear HX2'
          obtain ⟨x0, x1, x2, x3, x4⟩ := cells5 HX2.out
          rcases D2 with t5 | ⟨t5, t6, j6⟩
          all_goals
            go_upto_region 17 with (fail)
            clear x0 x1 x2 x3 x4
            have CK := Lib.hid (fun w' => kind04_any cand HOK.out w')
            have CTx := Lib.hid (fun hr w' => text04_any cand HOK.out hr w')
            have HFT : Hid (fits cand s = (right cand && decide (1 ≤ kd cand) && decide (textOf cand = s))) := Lib.hid rfl
            have HRK : Hid (rk cand = if right cand then kd cand else -1) := Lib.hid rfl
            generalize right cand = r at *
            generalize kd cand = kdc at *
            generalize rk cand = K at *
            generalize textOf cand = T at *
            generalize fits cand s = F at *
            clear HOK
            obtain ⟨i, n, s5, hh, d⟩ := cand
            obtain ⟨x0, x1, x2, x3, x4⟩ := cells5 HX2.out
            go_wp2_with fail
            refine (CK.out W).mono ?_
            rintro e w4 ⟨rfl, hb4⟩
            have HB4 := Lib.hid (below_next HB2.out HB2.out.size hb4)
            have HZ4 := Lib.hid (HZ2.out.next hb4)
            have HX4 := Lib.hid (HX2.out.next hb4)
            clear hb4 x0 x1 x2 x3 x4 HB2 HZ2 HX2 CK
            by_cases hK : K < 1
            · have t8 : decide (K < 1) = true := decide_eq_true hK
              have hF : F = false := by
                cases r
                · rw [HFT.out]; rfl
                · have e : K = kdc := HRK.out
                  rw [HFT.out, decide_eq_false (show ¬ 1 ≤ kdc by omega)]
                  rfl
              have HR := Lib.hid (show (rpVal s).val = zeroNm.val by rw [HVL.out, hF]; rfl)
              have HE := Lib.hid (show rpOk s = false by rw [HOL.out, hF])
              clear hK hF HFT HRK CTx HX4
              obtain ⟨c0, c1, c2, c3, c4⟩ := cells5 HZ4.out
              obtain ⟨f0, f1, f2, f3, f4⟩ := froz5 HZ4.out
              go_wp2_with fail
              have HK9 := Lib.hid (set5_blk HZ4.out (.bool false) (.int .u64 0) (.int .u64 0) (.string ⟨#[]⟩) (.string ⟨#[]⟩))
              have HB9 := Lib.hid (set5_below HB4.out (Nat.le_refl _) (.bool false) (.int .u64 0) (.int .u64 0) (.string ⟨#[]⟩) (.string ⟨#[]⟩))
              clear c0 c1 c2 c3 c4 f0 f1 f2 f3 f4
              generalize hW9 : set5 w4 w.heap.size (.bool false) (.int .u64 0) (.int .u64 0) (.string ⟨#[]⟩) (.string ⟨#[]⟩) = W9 at HK9 HB9
              unfold set5 at hW9
              rw [hW9]
              obtain ⟨c0, c1, c2, c3, c4⟩ := cells5 HK9.out
              refine bodyPost_ret (v := .tuple #[(rpVal s).val, .bool (rpOk s)]) (by rw [HR.out, HE.out]; simp [results, Tryd.results83, go_sem, *]) rfl ⟨rfl, HB9.out⟩
            · have t8 : decide (K < 1) = false := decide_eq_false hK
              have hr : r = true := by
                cases r
                · have e : K = -1 := HRK.out
                  omega
                · rfl
              subst hr
              have e1 : K = kdc := HRK.out
              have HF2 : Hid (F = decide (T = s)) := Lib.hid (by rw [HFT.out, decide_eq_true (show 1 ≤ kdc by omega)]; rfl)
              have CT2 := Lib.hid (CTx.out (by first | rfl | trivial))
              clear hK HFT HRK CTx e1
              obtain ⟨x0, x1, x2, x3, x4⟩ := cells5 HX4.out
              go_wp2_with fail
              refine (CT2.out w4).mono ?_
              rintro e w5 ⟨rfl, hb5⟩
              have HB5 := Lib.hid (below_next HB4.out HB4.out.size hb5)
              have HZ5 := Lib.hid (HZ4.out.next hb5)
              have HX5 := Lib.hid (HX4.out.next hb5)
              clear hb5 x0 x1 x2 x3 x4 HB4 HZ4 HX4 CT2
              obtain ⟨c0, c1, c2, c3, c4⟩ := cells5 HZ5.out
              obtain ⟨f0, f1, f2, f3, f4⟩ := froz5 HZ5.out
              cases h9 : (T.toList == s.toList)
              · have hT : T ≠ s := by rintro rfl; simp at h9
                have HR := Lib.hid (show (rpVal s).val = zeroNm.val by rw [HVL.out, HF2.out, decide_eq_false hT]; rfl)
                have HE := Lib.hid (show rpOk s = false by rw [HOL.out, HF2.out, decide_eq_false hT])
                clear hT HF2
                go_wp2_with fail
                have HK9 := Lib.hid (set5_blk HZ5.out (.bool false) (.int .u64 0) (.int .u64 0) (.string ⟨#[]⟩) (.string ⟨#[]⟩))
                have HB9 := Lib.hid (set5_below HB5.out (Nat.le_refl _) (.bool false) (.int .u64 0) (.int .u64 0) (.string ⟨#[]⟩) (.string ⟨#[]⟩))
                clear c0 c1 c2 c3 c4 f0 f1 f2 f3 f4
                generalize hW9 : set5 w5 w.heap.size (.bool false) (.int .u64 0) (.int .u64 0) (.string ⟨#[]⟩) (.string ⟨#[]⟩) = W9 at HK9 HB9
                unfold set5 at hW9
                rw [hW9]
                obtain ⟨c0, c1, c2, c3, c4⟩ := cells5 HK9.out
                refine bodyPost_ret (v := .tuple #[(rpVal s).val, .bool (rpOk s)]) (by rw [HR.out, HE.out]; simp [results, Tryd.results83, go_sem, *]) rfl ⟨rfl, HB9.out⟩
              · have hT : T = s := toList_inj (by simpa using h9)
                have HR := Lib.hid (show (rpVal s).val = Nm.val ⟨i, n, s5, hh, d⟩ by rw [HVL.out, HF2.out, decide_eq_true hT]; rfl)
                have HE := Lib.hid (show rpOk s = true by rw [HOL.out, HF2.out, decide_eq_true hT])
                clear hT HF2
                obtain ⟨x0, x1, x2, x3, x4⟩ := cells5 HX5.out
                go_wp2_with fail
                have HK9 := Lib.hid (set5_blk HZ5.out (.bool i) (.int .u64 n) (.int .u64 s5) (.string hh) (.string d))
                have HB9 := Lib.hid (set5_below HB5.out (Nat.le_refl _) (.bool i) (.int .u64 n) (.int .u64 s5) (.string hh) (.string d))
                clear c0 c1 c2 c3 c4 f0 f1 f2 f3 f4 x0 x1 x2 x3 x4
                generalize hW9 : set5 w5 w.heap.size (.bool i) (.int .u64 n) (.int .u64 s5) (.string hh) (.string d) = W9 at HK9 HB9
                unfold set5 at hW9
                rw [hW9]
                obtain ⟨c0, c1, c2, c3, c4⟩ := cells5 HK9.out
                refine bodyPost_ret (v := .tuple #[(rpVal s).val, .bool (rpOk s)]) (by rw [HR.out, HE.out]; simp [results, Tryd.results83, go_sem, *]) rfl ⟨rfl, HB9.out⟩
        · have hD2 := HCD.out
          rw [hD] at hD2
          simp only [Bool.true_eq, Bool.and_eq_true] at hD2
          obtain ⟨t5, t6⟩ := hD2
          have h6 : 6 < s.size := by have := of_decide_eq_true t5; omega
          have j6 : 6 ≤ (s.size : Int) := by omega
          have HEND := Lib.hid (fun h => rp_none HND.out (guess_end hI hD h))
          have HGO := Lib.hid (fun h => rp_val HND.out (guess_dtn hI hD h))
          have HTX := Lib.hid (show rpTxt s.data.toList = ⟨false, 0, 0, ba ((s.data.toList.drop 6).take (slash (s.data.toList.drop 6))), ba (s.data.toList.drop (6 + slash (s.data.toList.drop 6) + 1))⟩ from rfl)
          have HOKT := Lib.hid (rpTxt_ok s.data.toList (by rw [HSL.out]; unfold maxLen; omega))
          have HDA := Lib.hid (drop_at s)
          generalize rpTxt s.data.toList = cand at *
          clear hI hD HCI HCD HND
          go_upto_region 12 with (fail)
          go_loopw [8] (fun av wr => ∃ (p : Nat), 6 ≤ p ∧ p ≤ s.size ∧ av = .int .i64 p ∧ Hid (6 + slash (s.data.toList.drop 6) = p + slash (s.data.toList.drop p)) ∧ Hid (wr = W)) (fun av _ => s.size - (intOf av).toNat)
          case atStart => exact ⟨6, by omega, by omega, rfl, Lib.hid rfl, Lib.hid rfl⟩
          case round =>
            obtain ⟨p, hp6, hp, rfl, HQ, HW⟩ := hrel
            by_cases h2 : p < s.size
            · have t7 : decide ((p : Int) < (s.size : Int)) = true := decide_eq_true (by omega)
              have j0 : (0 : Int) ≤ (p : Int) := by omega
              have j1 : (p : Int) < (s.size : Int) := by omega
              have HD := Lib.hid (HDA.out p h2)
              by_cases h3 : s[p] = 47
              · have t8 : ((s[p].toNat : Int) != 47) = false := by rw [h3]; rfl
                have t9 : ((p : Int) == (s.size : Int)) = false := by simp only [beq_eq_false_iff_ne, ne_eq]; omega
                have j2 : (6 : Int) ≤ (p : Int) := by omega
                have j3 : (p : Int) ≤ (s.size : Int) := by omega
                have j5 : (p : Int) + 1 ≤ (s.size : Int) := by omega
                have hk : 6 + slash (s.data.toList.drop 6) = p := by rw [HQ.out, HD.out, slash_cons, if_pos h3]; rfl
                have hsk : slash (s.data.toList.drop 6) = p - 6 := by omega
                have HV0 := Lib.hid (HGO.out (by rw [hk, HSL.out]; omega))
                have HVL := Lib.hid HV0.out.1
                have HOL := Lib.hid HV0.out.2
                have HCE : Hid (cand = ⟨false, 0, 0, s.extract 6 p, s.extract (p + 1) s.size⟩) := Lib.hid (by
                  rw [HTX.out]
                  have e1 : ba ((s.data.toList.drop 6).take (slash (s.data.toList.drop 6))) = s.extract 6 p := toList_inj (by rw [Lib.toList_data, Lib.extract_toList, hsk])
                  have e2 : ba (s.data.toList.drop (6 + slash (s.data.toList.drop 6) + 1)) = s.extract (p + 1) s.size := toList_inj (by rw [Lib.toList_data, Lib.extract_toList, hk, List.take_of_length_le (by rw [List.length_drop, HSL.out]; exact Nat.le_refl _)])
                  rw [e1, e2])
                have HOK := HOKT
                have hw := HW.out
                subst hw
                clear h3 hk hsk HV0 HGO HEND HTX HOKT HQ HD HDA HW
                obtain ⟨x0, x1, x2, x3, x4⟩ := HX2C.out
                obtain ⟨g0, g1, g2, g3, g4⟩ := HX2F.out
                go_wp2_with fail
                go_region
                generalize s.extract 6 p = E1 at *
                generalize s.extract (p + 1) s.size = E2 at *
                have HX3 := Lib.hid (set5_blk HX2.out (.bool false) (.int .u64 0) (.int .u64 0) (.string E1) (.string E2)).drew
                have HB3 := Lib.hid (set5_below HB2.out (Nat.le_succ _) (.bool false) (.int .u64 0) (.int .u64 0) (.string E1) (.string E2)).drew
                have HZ3 := Lib.hid (set5_far HZ2.out (Nat.ne_of_lt (Nat.lt_succ_self _)) (.bool false) (.int .u64 0) (.int .u64 0) (.string E1) (.string E2)).drew
                clear x0 x1 x2 x3 x4 g0 g1 g2 g3 g4 HX2 HB2 HZ2 HX2C HX2F
                generalize hW3 : (set5 wr (w.heap.size + 1) (.bool false) (.int .u64 0) (.int .u64 0) (.string E1) (.string E2)).drew = W3 at HX3 HB3 HZ3 ⊢
                have HX3' : Hid (Blk W3 (w.heap.size + 1) 34 cand.cells) := Lib.hid (by rw [HCE.out]; exact HX3.out)
                clear HX3 hW3 HCE
                have HX3 := HX3'
                clear HX3'
                go_upto_region 17 with (fail)
                have CK := Lib.hid (fun w' => kind04_any cand HOK.out w')
                have CTx := Lib.hid (fun hr w' => text04_any cand HOK.out hr w')
                have HFT : Hid (fits cand s = (right cand && decide (1 ≤ kd cand) && decide (textOf cand = s))) := Lib.hid rfl
                have HRK : Hid (rk cand = if right cand then kd cand else -1) := Lib.hid rfl
                generalize right cand = r at *
                generalize kd cand = kdc at *
                generalize rk cand = K at *
                generalize textOf cand = T at *
                generalize fits cand s = F at *
                clear HOK
                obtain ⟨i, n, s5, hh, d⟩ := cand
                obtain ⟨x0, x1, x2, x3, x4⟩ := cells5 HX3.out
                go_wp2_with fail
                refine (CK.out W3).mono ?_
                rintro e w4 ⟨rfl, hb4⟩
                have HB4 := Lib.hid (below_next HB3.out HB3.out.size hb4)
                have HZ4 := Lib.hid (HZ3.out.next hb4)
                have HX4 := Lib.hid (HX3.out.next hb4)
                clear hb4 x0 x1 x2 x3 x4 HB3 HZ3 HX3 CK
                by_cases hK : K < 1
                · have t8 : decide (K < 1) = true := decide_eq_true hK
                  have hF : F = false := by
                    cases r
                    · rw [HFT.out]; rfl
                    · have e : K = kdc := HRK.out
                      rw [HFT.out, decide_eq_false (show ¬ 1 ≤ kdc by omega)]
                      rfl
                  have HR := Lib.hid (show (rpVal s).val = zeroNm.val by rw [HVL.out, hF]; rfl)
                  have HE := Lib.hid (show rpOk s = false by rw [HOL.out, hF])
                  clear hK hF HFT HRK CTx HX4
                  obtain ⟨c0, c1, c2, c3, c4⟩ := cells5 HZ4.out
                  obtain ⟨f0, f1, f2, f3, f4⟩ := froz5 HZ4.out
                  go_wp2_with fail
                  have HK9 := Lib.hid (set5_blk HZ4.out (.bool false) (.int .u64 0) (.int .u64 0) (.string ⟨#[]⟩) (.string ⟨#[]⟩))
                  have HB9 := Lib.hid (set5_below HB4.out (Nat.le_refl _) (.bool false) (.int .u64 0) (.int .u64 0) (.string ⟨#[]⟩) (.string ⟨#[]⟩))
                  clear c0 c1 c2 c3 c4 f0 f1 f2 f3 f4
                  generalize hW9 : set5 w4 w.heap.size (.bool false) (.int .u64 0) (.int .u64 0) (.string ⟨#[]⟩) (.string ⟨#[]⟩) = W9 at HK9 HB9
                  unfold set5 at hW9
                  rw [hW9]
                  obtain ⟨c0, c1, c2, c3, c4⟩ := cells5 HK9.out
                  refine bodyPost_ret (v := .tuple #[(rpVal s).val, .bool (rpOk s)]) (by rw [HR.out, HE.out]; simp [results, Tryd.results83, go_sem, *]) rfl ⟨rfl, HB9.out⟩
                · have t8 : decide (K < 1) = false := decide_eq_false hK
                  have hr : r = true := by
                    cases r
                    · have e : K = -1 := HRK.out
                      omega
                    · rfl
                  subst hr
                  have e1 : K = kdc := HRK.out
                  have HF2 : Hid (F = decide (T = s)) := Lib.hid (by rw [HFT.out, decide_eq_true (show 1 ≤ kdc by omega)]; rfl)
                  have CT2 := Lib.hid (CTx.out (by first | rfl | trivial))
                  clear hK HFT HRK CTx e1
                  obtain ⟨x0, x1, x2, x3, x4⟩ := cells5 HX4.out
                  go_wp2_with fail
                  refine (CT2.out w4).mono ?_
                  rintro e w5 ⟨rfl, hb5⟩
                  have HB5 := Lib.hid (below_next HB4.out HB4.out.size hb5)
                  have HZ5 := Lib.hid (HZ4.out.next hb5)
                  have HX5 := Lib.hid (HX4.out.next hb5)
                  clear hb5 x0 x1 x2 x3 x4 HB4 HZ4 HX4 CT2
                  obtain ⟨c0, c1, c2, c3, c4⟩ := cells5 HZ5.out
                  obtain ⟨f0, f1, f2, f3, f4⟩ := froz5 HZ5.out
                  cases h9 : (T.toList == s.toList)
                  · have hT : T ≠ s := by rintro rfl; simp at h9
                    have HR := Lib.hid (show (rpVal s).val = zeroNm.val by rw [HVL.out, HF2.out, decide_eq_false hT]; rfl)
                    have HE := Lib.hid (show rpOk s = false by rw [HOL.out, HF2.out, decide_eq_false hT])
                    clear hT HF2
                    go_wp2_with fail
                    have HK9 := Lib.hid (set5_blk HZ5.out (.bool false) (.int .u64 0) (.int .u64 0) (.string ⟨#[]⟩) (.string ⟨#[]⟩))
                    have HB9 := Lib.hid (set5_below HB5.out (Nat.le_refl _) (.bool false) (.int .u64 0) (.int .u64 0) (.string ⟨#[]⟩) (.string ⟨#[]⟩))
                    clear c0 c1 c2 c3 c4 f0 f1 f2 f3 f4
                    generalize hW9 : set5 w5 w.heap.size (.bool false) (.int .u64 0) (.int .u64 0) (.string ⟨#[]⟩) (.string ⟨#[]⟩) = W9 at HK9 HB9
                    unfold set5 at hW9
                    rw [hW9]
                    obtain ⟨c0, c1, c2, c3, c4⟩ := cells5 HK9.out
                    refine bodyPost_ret (v := .tuple #[(rpVal s).val, .bool (rpOk s)]) (by rw [HR.out, HE.out]; simp [results, Tryd.results83, go_sem, *]) rfl ⟨rfl, HB9.out⟩
                  · have hT : T = s := toList_inj (by simpa using h9)
                    have HR := Lib.hid (show (rpVal s).val = Nm.val ⟨i, n, s5, hh, d⟩ by rw [HVL.out, HF2.out, decide_eq_true hT]; rfl)
                    have HE := Lib.hid (show rpOk s = true by rw [HOL.out, HF2.out, decide_eq_true hT])
                    clear hT HF2
                    obtain ⟨x0, x1, x2, x3, x4⟩ := cells5 HX5.out
                    go_wp2_with fail
                    have HK9 := Lib.hid (set5_blk HZ5.out (.bool i) (.int .u64 n) (.int .u64 s5) (.string hh) (.string d))
                    have HB9 := Lib.hid (set5_below HB5.out (Nat.le_refl _) (.bool i) (.int .u64 n) (.int .u64 s5) (.string hh) (.string d))
                    clear c0 c1 c2 c3 c4 f0 f1 f2 f3 f4 x0 x1 x2 x3 x4
                    generalize hW9 : set5 w5 w.heap.size (.bool i) (.int .u64 n) (.int .u64 s5) (.string hh) (.string d) = W9 at HK9 HB9
                    unfold set5 at hW9
                    rw [hW9]
                    obtain ⟨c0, c1, c2, c3, c4⟩ := cells5 HK9.out
                    refine bodyPost_ret (v := .tuple #[(rpVal s).val, .bool (rpOk s)]) (by rw [HR.out, HE.out]; simp [results, Tryd.results83, go_sem, *]) rfl ⟨rfl, HB9.out⟩
              · have h3' : s[p].toNat ≠ 47 := fun e => h3 (UInt8.toNat_inj.1 e)
                have t8 : ((s[p].toNat : Int) != 47) = true := by simp only [bne_iff_ne, ne_eq]; omega
                have HN : Hid (6 + slash (s.data.toList.drop 6) = p + 1 + slash (s.data.toList.drop (p + 1))) := Lib.hid (by
                  rw [HQ.out, HD.out, slash_cons, if_neg h3]
                  omega)
                clear h3 h3' HQ
                go_wp2_with fail
                go_roundw
                case rel => exact ⟨p + 1, by omega, by omega, by go_num, HN, HW⟩
                case measure => simp [intOf]; omega
            · obtain rfl : p = s.size := by omega
              have t7 : decide ((s.size : Int) < (s.size : Int)) = false := decide_eq_false (by omega)
              have HR0 := Lib.hid (HEND.out (by rw [HQ.out, List.drop_of_length_le (by rw [HSL.out]; exact Nat.le_refl _), HSL.out]; rfl))
              have HR := Lib.hid (show (rpVal s).val = zeroNm.val by rw [HR0.out.1])
              have HE := Lib.hid HR0.out.2
              have hw := HW.out
              subst hw
              obtain ⟨c0, c1, c2, c3, c4⟩ := cells5 HZ2.out
              obtain ⟨f0, f1, f2, f3, f4⟩ := froz5 HZ2.out
              go_wp2_with fail
              have HK9 := Lib.hid (set5_blk HZ2.out (.bool false) (.int .u64 0) (.int .u64 0) (.string ⟨#[]⟩) (.string ⟨#[]⟩))
              have HB9 := Lib.hid (set5_below HB2.out (Nat.le_refl _) (.bool false) (.int .u64 0) (.int .u64 0) (.string ⟨#[]⟩) (.string ⟨#[]⟩))
              clear c0 c1 c2 c3 c4 f0 f1 f2 f3 f4
              generalize hW9 : set5 wr w.heap.size (.bool false) (.int .u64 0) (.int .u64 0) (.string ⟨#[]⟩) (.string ⟨#[]⟩) = W9 at HK9 HB9
              unfold set5 at hW9
              rw [hW9]
              obtain ⟨c0, c1, c2, c3, c4⟩ := cells5 HK9.out
              refine bodyPost_ret (v := .tuple #[(rpVal s).val, .bool (rpOk s)]) (by rw [HR.out, HE.out]; simp [results, Tryd.results83, go_sem, *]) rfl ⟨rfl, HB9.out⟩
end Go.Proofs.YtbgcbcnidjlhnaaDoor.Eid
