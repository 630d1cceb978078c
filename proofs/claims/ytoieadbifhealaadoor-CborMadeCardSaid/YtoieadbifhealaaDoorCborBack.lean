/- The walk of law03's CborBack. -/
import Derived.Test.YtoieadbifhealaaDoorGreat
import Derived.Test.YtoieadbifhealaaDoorAlive03
import Derived.Test.YtoieadbifhealaaDoorAs03
import Derived.Test.YtoieadbifhealaaDoorRefSame
import Derived.Deep.CutBlock
import Derived.Deep.RegionHeld3
namespace Go.Proofs.YtoieadbifhealaaDoor.CborBack
open Go.RowKit Wd Cb CbCopy CbRight CbWrite CbHead CbPiece CbBytes U8V CbRead CbSame CbShort Great Alive03 As03 RefSame

theorem cells4 {w : World} {g : Nat} {t : TypeId} {a b c d : Value} (h : Blk w g t #[a, b, c, d]) : w.cell? ⟨g, 0, none⟩ = some a ∧ w.cell? ⟨g, 1, none⟩ = some b ∧ w.cell? ⟨g, 2, none⟩ = some c ∧ w.cell? ⟨g, 3, none⟩ = some d :=
  ⟨by simpa using h.cell 0, by simpa using h.cell 1, by simpa using h.cell 2, by simpa using h.cell 3⟩

set_option maxRecDepth 100000 in
set_option maxHeartbeats 4000000 in
theorem walk (x : Itm) (v : Value) (A : Option Addr) (c : Nat) (xs : List Int) (W : World) (hv : ItemV W 0 W.heap.size x v)
    (hl : xs.length ≤ c) (hm : c ≤ maxLen) (hs : Lst W W.heap.size A (u8s xs)) (hb : St.bts xs) (hT : Tabs W) :
    Calls Tryd.prog 4 #[v, .slice A xs.length c] W fun e W' => e = .returned (.bool true) ∧ Below W.heap.size W W' := by
  have hsane := hv.sane
  obtain ⟨A1, c1, A2, c2, rfl, -⟩ := hv.open_
  have hb0 := (Below.refl W.heap.size W).alloc (Nat.le_refl _) (.cells #[.int .i64 x.kind, .int .u64 x.num, .slice A1 x.bs.length c1, .slice A2 x.sub.length c2] 26)
  have HV := Lib.hid (hv.alloc (Nat.le_refl _) (.cells #[.int .i64 x.kind, .int .u64 x.num, .slice A1 x.bs.length c1, .slice A2 x.sub.length c2] 26))
  have HK := Lib.hid (Blk.new W 26 #[.int .i64 x.kind, .int .u64 x.num, .slice A1 x.bs.length c1, .slice A2 x.sub.length c2])
  have HB0 := Lib.hid hb0
  have HT0 := Lib.hid (hT.below hb0 (Nat.le_refl _))
  have HTT := Lib.hid hT
  have HSS := Lib.hid hs
  have HSN := Lib.hid hsane
  have HX := Lib.hid hb
  have hz0 : (W.alloc (.cells #[.int .i64 x.kind, .int .u64 x.num, .slice A1 x.bs.length c1, .slice A2 x.sub.length c2] 26)).heap.size = W.heap.size + 1 := by simp
  clear hv hb0 hT hs hb hsane
  have HM := Lib.hid hm
  unfold maxLen at hm
  go_enter Tryd.func4, Tryd.ntmps4
  go_wp2_with fail
  generalize W.alloc (.cells #[.int .i64 x.kind, .int .u64 x.num, .slice A1 x.bs.length c1, .slice A2 x.sub.length c2] 26) = W0 at *
  refine (great_any x _ W0 (HV.out.more (Nat.le_refl _) (by omega))).mono ?_
  rintro e w1 ⟨rfl, hb1⟩
  have HV1 := Lib.hid (HV.out.below (hb1.mono (by omega)))
  have HK1 := Lib.hid (HK.out.next hb1)
  have HB1 := Lib.hid (below_next HB0.out (by omega) hb1)
  have HT1 := Lib.hid (HT0.out.below hb1 (Nat.le_refl _))
  have hz1 : W.heap.size < w1.heap.size := HK1.out.lt
  clear hb1 HV HK HB0 HT0 hz0
  by_cases hg : grt x 1 400 < 0
  · rw [show decide (grt x 1 400 < 0) = true from decide_eq_true hg]
    clear hg
    go_wp2_with fail
    refine (alive_any w1 HT1.out).mono ?_
    rintro e w2 ⟨rfl, hb2⟩
    have HB2 := Lib.hid (below_next HB1.out (by omega) hb2)
    clear hb2
    go_wp2_with fail
    go_ret
    exact ⟨rfl, HB2.out⟩
  · rw [show decide (grt x 1 400 < 0) = false from decide_eq_false hg]
    have hok := grt_ok x 1 400 (by omega) (by omega) (by omega)
    have hle : (enc x).length ≤ 1203600 := by
      have := hok.1
      have := hok.2.2
      omega
    have hsz : size x ≤ 400 := by have := hok.1; omega
    have hdp : deep x ≤ 9 := by have := hok.2.1; omega
    clear hok hg
    by_cases hbl : (2000 : Int) < xs.length
    · have t0 : decide ((2000 : Int) < (xs.length : Int)) = true := decide_eq_true hbl
      go_wp2_with fail
      refine (alive_any w1 HT1.out).mono ?_
      rintro e w2 ⟨rfl, hb2⟩
      have HB2 := Lib.hid (below_next HB1.out (by omega) hb2)
      clear hb2
      go_wp2_with fail
      go_ret
      exact ⟨rfl, HB2.out⟩
    · have t0 : decide ((2000 : Int) < (xs.length : Int)) = false := decide_eq_false hbl
      obtain ⟨q0, q1, q2, q3⟩ := cells4 HK1.out
      have CW : Hid (Calls Tryd.prog 15 #[.agg #[.int .i64 x.kind, .int .u64 x.num, .slice A1 x.bs.length c1, .slice A2 x.sub.length c2]] w1 fun e w' => ∃ (A' : Option Addr) (n : Nat) (er : Int), e = .returned (.tuple #[.slice A' n n, .int .i64 er]) ∧ Hid ((right x = true ∧ er = 0 ∧ n = (enc x).length ∧ Seg w' w1.heap.size w'.heap.size A' (u8s (enc x))) ∨ er = 3) ∧ Below w1.heap.size w1 w') := Lib.hid (by
        cases hr : right x
        · refine (write_no x _ W.heap.size w1 HV1.out (by omega) HT1.out hr).mono ?_
          rintro e w' ⟨rfl, hb⟩
          exact ⟨none, 0, 3, rfl, Lib.hid (.inr rfl), hb⟩
        · refine (write_yes x _ W.heap.size w1 HV1.out (by omega) HT1.out hr (by omega)).mono ?_
          rintro e w' ⟨A', rfl, hs, hb⟩
          exact ⟨A', _, 0, rfl, Lib.hid (.inl ⟨rfl, rfl, rfl, hs.out⟩), hb⟩)
      go_wp2_with fail
      refine CW.out.mono ?_
      rintro e w2 ⟨A3, n3, er, rfl, HC, hb2⟩
      have HV2 := Lib.hid (HV1.out.below (hb2.mono (by omega)))
      have HK2 := Lib.hid (HK1.out.next hb2)
      have HB2 := Lib.hid (below_next HB1.out (by omega) hb2)
      have HT2 := Lib.hid (HT1.out.below hb2 (Nat.le_refl _))
      have hz2 := hb2.size
      clear hb2 q0 q1 q2 q3 CW HK1 HV1 HB1 HT1 t0
      go_upto_if 32 with (fail)
      go_cut [7, 8, 9] from 33 to 59 (fun a b d wx => Hid (Below W.heap.size W wx))
      case first =>
        rcases HC.out with ⟨hr, rfl, rfl, hs2⟩ | rfl
        · have HRB := Lib.hid (read_back x [] hr HSN.out (by omega))
          have HEB := Lib.hid (enc_bts x (right_fine hr) HSN.out (by omega))
          have hrb := HRB.out
          rw [List.append_nil] at hrb
          have HRB := Lib.hid hrb
          have HS2 := Lib.hid ((hs2.more (Nat.zero_le _) (Nat.le_refl _)).lst)
          clear hr hs2 HC hrb
          generalize hE : enc x = E at *
          have HE := Lib.hid hE
          clear hE
          go_wp2_with fail
          refine (read_the A3 w2.heap.size E.length E.length E 0 w2 rfl HS2.out (Nat.le_refl _) HEB.out (Nat.le_refl _) (by unfold maxLen; omega) (by omega) HT2.out _ HRB.out).mono ?_
          rintro e w5 ⟨v5, rfl, HI5, hb5'⟩
          have hb5 := hb5'.out
          obtain ⟨k5, n5, A5, b5, c5, A6, b6, c6, rfl⟩ := ItemV_four HI5.out
          have hz5 : w2.heap.size ≤ w5.heap.size := hb5.size
          have HK5 := Lib.hid ((HK2.out.next hb5).alloc (.cells #[.int .i64 k5, .int .u64 n5, .slice A5 b5 c5, .slice A6 b6 c6] 26))
          have HK5' := Lib.hid (Blk.new w5 26 #[.int .i64 k5, .int .u64 n5, .slice A5 b5 c5, .slice A6 b6 c6])
          have HB5 := Lib.hid ((below_next HB2.out (by omega) hb5).alloc (by omega) (.cells #[.int .i64 k5, .int .u64 n5, .slice A5 b5 c5, .slice A6 b6 c6] 26))
          have HV5 := Lib.hid ((HV2.out.below (hb5.mono (by omega))).alloc (by omega) (.cells #[.int .i64 k5, .int .u64 n5, .slice A5 b5 c5, .slice A6 b6 c6] 26))
          have HY5 := Lib.hid ((HI5.out.more (Nat.zero_le _) (Nat.le_refl _)).alloc (Nat.le_refl _) (.cells #[.int .i64 k5, .int .u64 n5, .slice A5 b5 c5, .slice A6 b6 c6] 26))
          have HT5 := Lib.hid ((HT2.out.below hb5 (Nat.le_refl _)).below ((Below.refl w5.heap.size w5).alloc (Nat.le_refl _) (.cells #[.int .i64 k5, .int .u64 n5, .slice A5 b5 c5, .slice A6 b6 c6] 26)) (Nat.le_refl _))
          have HS5 := Lib.hid ((HS2.out.below hb5).below ((Below.refl w5.heap.size w5).alloc (Nat.le_refl _) (.cells #[.int .i64 k5, .int .u64 n5, .slice A5 b5 c5, .slice A6 b6 c6] 26) |>.mono hz5))
          have hW5 : W.heap.size < w5.heap.size := by omega
          have hne : ((E.length : Int) != (E.length : Int)) = false := by simp
          clear hb5 hb5' HI5 HK2 HB2 HV2 HT2 HS2
          go_upto_region 6 with (fail)
          have hza : (w5.alloc (.cells #[.int .i64 k5, .int .u64 n5, .slice A5 b5 c5, .slice A6 b6 c6] 26)).heap.size = w5.heap.size + 1 := World.size_alloc _ _
          have hza1 := Nat.le_of_eq hza
          have hza2 := Nat.le_of_eq hza.symm
          clear hza
          generalize w5.alloc (.cells #[.int .i64 k5, .int .u64 n5, .slice A5 b5 c5, .slice A6 b6 c6] 26) = wb at *
          have KC := Lib.hid (fun (W' : World) (hW : Below wb.heap.size wb W') => And.intro (cells4 (HK5.out.below hW HK5.out.lt)) (cells4 (HK5'.out.below hW HK5'.out.lt)))
          have CA1 := Lib.hid (fun (W' : World) (hW : Below wb.heap.size wb W') => as_any x _ W.heap.size 10 W' (HV5.out.below (hW.mono (by omega))) (by have := hW.size; omega) (by omega) (by omega) (by omega))
          have CA2 := Lib.hid (fun (W' : World) (hW : Below wb.heap.size wb W') => as_any x _ w5.heap.size 10 W' (HY5.out.below (hW.mono (by omega))) (by have := hW.size; omega) (by omega) (by omega) (by omega))
          have CSm := Lib.hid (fun (W' : World) (u1 u2 : Value) (h1 : ItemV W' 0 W'.heap.size x u1) (h2 : ItemV W' 0 W'.heap.size x u2) => refSame_any (deep x) x x u1 u2 W' (Nat.le_refl _) h1 h2 (by omega) (by omega))
          have CSh := Lib.hid (fun (W' : World) (hW : Below wb.heap.size wb W') => shortest_the A3 w2.heap.size E.length E.length E W' rfl (HS5.out.below (hW.mono (by omega))) (by have := hW.size; omega) HEB.out (Nat.le_refl _) (by unfold maxLen; omega) (by omega) (HT5.out.below hW (Nat.le_refl _)) _ HRB.out)
          have HSO : Hid (shortOf E (.ok x E.length (256 - size x)) = true) := Lib.hid (by show (E == enc x) = true; rw [HE.out]; simp)
          have HBd := Lib.hid ((Below.refl wb.heap.size wb).drew)
          go_region_held3 (fun w' => (w'.cell? ⟨W.heap.size, 0, none⟩ = some (.int .i64 x.kind) ∧ w'.cell? ⟨W.heap.size, 1, none⟩ = some (.int .u64 x.num) ∧ w'.cell? ⟨W.heap.size, 2, none⟩ = some (.slice A1 x.bs.length c1) ∧ w'.cell? ⟨W.heap.size, 3, none⟩ = some (.slice A2 x.sub.length c2)) ∧ (w'.cell? ⟨w5.heap.size, 0, none⟩ = some (.int .i64 k5) ∧ w'.cell? ⟨w5.heap.size, 1, none⟩ = some (.int .u64 n5) ∧ w'.cell? ⟨w5.heap.size, 2, none⟩ = some (.slice A5 b5 c5) ∧ w'.cell? ⟨w5.heap.size, 3, none⟩ = some (.slice A6 b6 c6)))
            (first | exact KC.out _ HBd.out | exact KC.out _ HB9.out | exact KC.out _ HB8.out | exact KC.out _ HB7.out | exact KC.out _ HB6.out | fail)
            (first | (go_at_call 14; (refine (CA2.out _ HB6.out).mono ?_); rintro e w7 ⟨u7, rfl, HU7, hb7⟩; have HB7 := Lib.hid (below_next HB6.out HB6.out.size hb7); have HU67 := Lib.hid ((HU6.out.below hb7).more (Nat.le_refl _) hb7.size); clear hb7) | (go_at_call 14; (refine (CA1.out _ HBd.out).mono ?_); rintro e w6 ⟨u6, rfl, HU6, hb6⟩; have HB6 := Lib.hid (below_next HBd.out HBd.out.size hb6); clear hb6) | (go_at_call 19; (refine (CSm.out _ _ _ HU67.out HU7.out).mono ?_); rintro e w8 ⟨rfl, hb8⟩; rw [same_self x]; have HB8 := Lib.hid (below_next HB7.out HB7.out.size hb8); clear hb8) | (go_at_call 22; (refine (CSh.out _ HB8.out).mono ?_); rintro e w9 ⟨rfl, hb9⟩; rw [HSO.out]; have HB9 := Lib.hid (below_next HB8.out HB8.out.size hb9); clear hb9) | fail)
          have HBE := Lib.hid (below_next HB5.out (by omega) HB9.out)
          clear HB9 HB8 HB7 HB6 HU6 HU7 HU67 KC CA1 CA2 CSm CSh
          go_wp2_with fail
          go_meet
          exact HBE
        · go_wp2_with fail
          go_meet
          exact HB2
      case rest =>
        have HBc : Hid (Below W.heap.size W wc) := hcut
        have hzc : W.heap.size ≤ wc.heap.size := HBc.out.size
        have HTc := Lib.hid (HTT.out.below HBc.out (Nat.le_refl _))
        have HSc := Lib.hid (HSS.out.below HBc.out)
        clear hcut HC HV2 HK2 HB2 HT2 hz2
        go_wp2_with fail
        refine (read_any A W.heap.size c xs 0 wc HSc.out (by omega) HX.out hl HM.out (by omega) HTc.out).mono ?_
        rintro e w1 ⟨r, hr, ho⟩
        have HRR := Lib.hid hr
        cases r with
        | err k =>
          obtain ⟨rfl, hbb⟩ := ho
          have hne := read_err hr
          have hk : (k != 0) = true := by simpa using hne
          have HB1 := Lib.hid ((below_next HBc.out hzc hbb.out).alloc (by have := hbb.out.size; omega) (.cells #[.int .i64 0, .int .u64 0, .slice none 0 0, .slice none 0 0] 26))
          have HT1 := Lib.hid ((HTc.out.below hbb.out (Nat.le_refl _)).below ((Below.refl w1.heap.size w1).alloc (Nat.le_refl _) (.cells #[.int .i64 0, .int .u64 0, .slice none 0 0, .slice none 0 0] 26)) (Nat.le_refl _))
          have HS1 := Lib.hid (HSS.out.below HB1.out)
          have hz1 := HB1.out.size
          clear hr hne hbb
          go_wp2_with fail
          generalize w1.alloc (.cells #[.int .i64 0, .int .u64 0, .slice none 0 0, .slice none 0 0] 26) = w2 at *
          refine (alive_any w2 HT1.out).mono ?_
          rintro e w3 ⟨rfl, hb3⟩
          have HB3 := Lib.hid (below_next HB1.out hz1 hb3)
          have HS3 := Lib.hid (HS1.out.below (hb3.mono hz1))
          have HT3 := Lib.hid (HT1.out.below hb3 (Nat.le_refl _))
          have hz3 := HB3.out.size
          clear hb3
          go_wp2_with fail
          refine (shortest_the A W.heap.size c xs.length xs w3 rfl HS3.out hz3 HX.out hl HM.out (by omega) HT3.out _ HRR.out).mono ?_
          rintro e w4 ⟨rfl, hb4⟩
          rw [show shortOf xs (.err k) = false from rfl]
          have HB4 := Lib.hid (below_next HB3.out hz3 hb4)
          clear hb4
          go_wp2_with fail
          go_ret
          exact ⟨rfl, HB4.out⟩
        | ok y p' l' =>
          obtain ⟨v1, rfl, HI1, hbb⟩ := ho
          have hgood := read_good HX.out (by omega) hr
          obtain ⟨hry, hsy, hg0, hg1, hg2, hg3⟩ := hgood
          obtain ⟨k5, n5, A5, b5, c5, A6, b6, c6, rfl⟩ := ItemV_four HI1.out
          have hyl : (enc y).length ≤ 2000 := by omega
          have hyl2 : ((enc y).length : Int) ≤ p' := by omega
          have hysz : size y ≤ 256 ∧ deep y ≤ 6 := by
            unfold right at hry
            simp only [Bool.and_eq_true, decide_eq_true_eq] at hry
            exact ⟨hry.1.1, hry.1.2⟩
          have hys1 := hysz.1
          have hys2 := hysz.2
          have HRY := Lib.hid hry
          have HSY := Lib.hid hsy
          have hz1 := hbb.out.size
          have HB1 := Lib.hid ((below_next HBc.out hzc hbb.out).alloc (by omega) (.cells #[.int .i64 k5, .int .u64 n5, .slice A5 b5 c5, .slice A6 b6 c6] 26))
          have HT1 := Lib.hid ((HTc.out.below hbb.out (Nat.le_refl _)).below ((Below.refl w1.heap.size w1).alloc (Nat.le_refl _) (.cells #[.int .i64 k5, .int .u64 n5, .slice A5 b5 c5, .slice A6 b6 c6] 26)) (Nat.le_refl _))
          have HK1 := Lib.hid (Blk.new w1 26 #[.int .i64 k5, .int .u64 n5, .slice A5 b5 c5, .slice A6 b6 c6])
          have HV1 := Lib.hid ((HI1.out.more (Nat.zero_le _) (Nat.le_refl _)).alloc (Nat.le_refl _) (.cells #[.int .i64 k5, .int .u64 n5, .slice A5 b5 c5, .slice A6 b6 c6] 26))
          have CW := Lib.hid (write_yes y _ w1.heap.size (w1.alloc (.cells #[.int .i64 k5, .int .u64 n5, .slice A5 b5 c5, .slice A6 b6 c6] 26)) HV1.out (by simp) HT1.out hry (by omega))
          have HRB := Lib.hid (read_back y [] hry hsy (by omega))
          have HEB := Lib.hid (enc_bts y (right_fine hry) hsy (by omega))
          have hrb := HRB.out
          rw [List.append_nil] at hrb
          have HRB := Lib.hid hrb
          clear hr hry hsy hg0 hg1 hg2 hg3 hrb hysz hbb HI1 HRR
          go_wp2_with fail
          refine CW.out.mono ?_
          rintro e w2 ⟨A7, rfl, HS2, hb2⟩
          have HB2 := Lib.hid (below_next HB1.out (by simp; omega) hb2)
          have HT2 := Lib.hid (HT1.out.below hb2 (Nat.le_refl _))
          have HK2 := Lib.hid (HK1.out.next hb2)
          have HV2 := Lib.hid (HV1.out.below (hb2.mono (by simp)))
          have HS2 := Lib.hid (HS2.out.more (Nat.zero_le _) (Nat.le_refl _)).lst
          have hz2 : w1.heap.size < w2.heap.size := HK2.out.lt
          generalize hE : enc y = E at *
          have HE := Lib.hid hE
          clear hE hb2 CW HK1 HV1 HB1 HT1
          go_wp2_with fail
          refine (read_the A7 w2.heap.size E.length E.length E 0 w2 rfl HS2.out (Nat.le_refl _) HEB.out (Nat.le_refl _) (by unfold maxLen; omega) (by omega) HT2.out _ HRB.out).mono ?_
          rintro e w3 ⟨v3, rfl, HI3, hbb⟩
          have hb3 := hbb.out
          obtain ⟨k8, n8, A8, b8, c8, A9, b9, c9, rfl⟩ := ItemV_four HI3.out
          have hz3 : w2.heap.size ≤ w3.heap.size := hb3.size
          have HK3 := Lib.hid ((HK2.out.next hb3).alloc (.cells #[.int .i64 k8, .int .u64 n8, .slice A8 b8 c8, .slice A9 b9 c9] 26))
          have HK3' := Lib.hid (Blk.new w3 26 #[.int .i64 k8, .int .u64 n8, .slice A8 b8 c8, .slice A9 b9 c9])
          have HB3 := Lib.hid ((below_next HB2.out (by omega) hb3).alloc (by omega) (.cells #[.int .i64 k8, .int .u64 n8, .slice A8 b8 c8, .slice A9 b9 c9] 26))
          have HV3 := Lib.hid ((HV2.out.below (hb3.mono (by omega))).alloc (by omega) (.cells #[.int .i64 k8, .int .u64 n8, .slice A8 b8 c8, .slice A9 b9 c9] 26))
          have HY3 := Lib.hid ((HI3.out.more (Nat.zero_le _) (Nat.le_refl _)).alloc (Nat.le_refl _) (.cells #[.int .i64 k8, .int .u64 n8, .slice A8 b8 c8, .slice A9 b9 c9] 26))
          have HT3 := Lib.hid ((HT2.out.below hb3 (Nat.le_refl _)).below ((Below.refl w3.heap.size w3).alloc (Nat.le_refl _) (.cells #[.int .i64 k8, .int .u64 n8, .slice A8 b8 c8, .slice A9 b9 c9] 26)) (Nat.le_refl _))
          have HS3 := Lib.hid ((HS2.out.below hb3).below ((Below.refl w3.heap.size w3).alloc (Nat.le_refl _) (.cells #[.int .i64 k8, .int .u64 n8, .slice A8 b8 c8, .slice A9 b9 c9] 26) |>.mono hz3))
          have hle : decide ((E.length : Int) ≤ p') = true := decide_eq_true (by omega)
          have heq : ((E.length : Int) == (E.length : Int)) = true := by simp
          clear hb3 hbb HI3 HK2 HB2 HV2 HT2 HS2
          go_upto_region 13 with (fail)
          have hza : (w3.alloc (.cells #[.int .i64 k8, .int .u64 n8, .slice A8 b8 c8, .slice A9 b9 c9] 26)).heap.size = w3.heap.size + 1 := World.size_alloc _ _
          have hza1 := Nat.le_of_eq hza
          have hza2 := Nat.le_of_eq hza.symm
          clear hza
          generalize w3.alloc (.cells #[.int .i64 k8, .int .u64 n8, .slice A8 b8 c8, .slice A9 b9 c9] 26) = wb at *
          have KC := Lib.hid (fun (W' : World) (hW : Below wb.heap.size wb W') => And.intro (cells4 (HK3.out.below hW HK3.out.lt)) (cells4 (HK3'.out.below hW HK3'.out.lt)))
          have CAl := Lib.hid (fun (W' : World) (hW : Below wb.heap.size wb W') => alive_any W' (HT3.out.below hW (Nat.le_refl _)))
          have CRi := Lib.hid (fun (W' : World) (hW : Below wb.heap.size wb W') => right_any y _ w1.heap.size W' (HV3.out.below (hW.mono (by omega))) (by have := hW.size; omega) (HT3.out.below hW (Nat.le_refl _)))
          have CA1 := Lib.hid (fun (W' : World) (hW : Below wb.heap.size wb W') => as_any y _ w1.heap.size 10 W' (HV3.out.below (hW.mono (by omega))) (by have := hW.size; omega) (by omega) (by omega) (by omega))
          have CA2 := Lib.hid (fun (W' : World) (hW : Below wb.heap.size wb W') => as_any y _ w3.heap.size 10 W' (HY3.out.below (hW.mono (by omega))) (by have := hW.size; omega) (by omega) (by omega) (by omega))
          have CSm := Lib.hid (fun (W' : World) (u1 u2 : Value) (h1 : ItemV W' 0 W'.heap.size y u1) (h2 : ItemV W' 0 W'.heap.size y u2) => refSame_any (deep y) y y u1 u2 W' (Nat.le_refl _) h1 h2 (by omega) (by omega))
          have CSh := Lib.hid (fun (W' : World) (hW : Below wb.heap.size wb W') => shortest_the A7 w2.heap.size E.length E.length E W' rfl (HS3.out.below (hW.mono (by omega))) (by have := hW.size; omega) HEB.out (Nat.le_refl _) (by unfold maxLen; omega) (by omega) (HT3.out.below hW (Nat.le_refl _)) _ HRB.out)
          have HSO : Hid (shortOf E (.ok y E.length (256 - size y)) = true) := Lib.hid (by show (E == enc y) = true; rw [HE.out]; simp)
          have HBd := Lib.hid ((Below.refl wb.heap.size wb).drew)
          go_region_held3 (fun w' => (w'.cell? ⟨w1.heap.size, 0, none⟩ = some (.int .i64 k5) ∧ w'.cell? ⟨w1.heap.size, 1, none⟩ = some (.int .u64 n5) ∧ w'.cell? ⟨w1.heap.size, 2, none⟩ = some (.slice A5 b5 c5) ∧ w'.cell? ⟨w1.heap.size, 3, none⟩ = some (.slice A6 b6 c6)) ∧ (w'.cell? ⟨w3.heap.size, 0, none⟩ = some (.int .i64 k8) ∧ w'.cell? ⟨w3.heap.size, 1, none⟩ = some (.int .u64 n8) ∧ w'.cell? ⟨w3.heap.size, 2, none⟩ = some (.slice A8 b8 c8) ∧ w'.cell? ⟨w3.heap.size, 3, none⟩ = some (.slice A9 b9 c9)))
            (first | exact KC.out _ HBd.out | exact KC.out _ HB9.out | exact KC.out _ HB8.out | exact KC.out _ HB7.out | exact KC.out _ HB6.out | exact KC.out _ HB5.out | exact KC.out _ HB4.out | fail)
            (first | (go_at_call 13; (refine (CAl.out _ HBd.out).mono ?_); rintro e w4 ⟨rfl, hb4⟩; have HB4 := Lib.hid (below_next HBd.out HBd.out.size hb4); clear hb4) | (go_at_call 16; (refine (CRi.out _ HB4.out).mono ?_); rintro e w5 ⟨rfl, hb5⟩; rw [HRY.out]; have HB5 := Lib.hid (below_next HB4.out HB4.out.size hb5); clear hb5) | (go_at_call 22; (refine (CSh.out _ HB5.out).mono ?_); rintro e w6 ⟨rfl, hb6⟩; rw [HSO.out]; have HB6 := Lib.hid (below_next HB5.out HB5.out.size hb6); clear hb6) | (go_at_call 14; (refine (CA2.out _ HB7.out).mono ?_); rintro e w8 ⟨u8, rfl, HU8, hb8⟩; have HB8 := Lib.hid (below_next HB7.out HB7.out.size hb8); have HU78 := Lib.hid ((HU7.out.below hb8).more (Nat.le_refl _) hb8.size); clear hb8) | (go_at_call 14; (refine (CA1.out _ HB6.out).mono ?_); rintro e w7 ⟨u7, rfl, HU7, hb7⟩; have HB7 := Lib.hid (below_next HB6.out HB6.out.size hb7); clear hb7) | (go_at_call 19; (refine (CSm.out _ _ _ HU78.out HU8.out).mono ?_); rintro e w9 ⟨rfl, hb9⟩; rw [same_self y]; have HB9 := Lib.hid (below_next HB8.out HB8.out.size hb9); clear hb9) | fail)
          have HBE := Lib.hid (below_next HB3.out (by omega) HB9.out)
          clear HB9 HB8 HB7 HB6 HB5 HB4 HU7 HU8 HU78 KC CA1 CA2 CSm CSh CAl CRi
          go_wp2_with fail
          go_ret
          exact ⟨rfl, HBE.out⟩
end Go.Proofs.YtoieadbifhealaaDoor.CborBack
