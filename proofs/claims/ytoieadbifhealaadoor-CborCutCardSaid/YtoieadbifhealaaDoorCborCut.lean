/- The walk of law03's CborCut. -/
import Derived.Test.YtoieadbifhealaaDoorGreat
import Derived.Test.YtoieadbifhealaaDoorAlive03
import Derived.Test.YtoieadbifhealaaDoorApp
namespace Go.Proofs.YtoieadbifhealaaDoor.CborCut
open Go.RowKit Wd Cb CbCopy CbRight CbWrite CbHead CbPiece CbBytes U8V CbRead CbSame CbShort Great Alive03

set_option maxRecDepth 100000 in
set_option maxHeartbeats 2000000 in
theorem walk (x : Itm) (v : Value) (cut : Int) (A : Option Addr) (c : Nat) (xs : List Int) (W : World) (hv : ItemV W 0 W.heap.size x v) (hcut : -9223372036854775808 ≤ cut ∧ cut ≤ 9223372036854775807)
    (hl : xs.length ≤ c) (hm : c ≤ maxLen) (hs : Lst W W.heap.size A (u8s xs)) (hb : St.bts xs) (hT : Tabs W) :
    Calls Tryd.prog 6 #[v, .int .i64 cut, .slice A xs.length c] W fun e W' => e = .returned (.bool true) ∧ Below W.heap.size W W' := by
  have hsane := hv.sane
  obtain ⟨A1, c1, A2, c2, rfl, -⟩ := hv.open_
  have hb0 := (Below.refl W.heap.size W).alloc (Nat.le_refl _) (.cells #[.int .i64 x.kind, .int .u64 x.num, .slice A1 x.bs.length c1, .slice A2 x.sub.length c2] 26)
  have HV := Lib.hid (hv.alloc (Nat.le_refl _) (.cells #[.int .i64 x.kind, .int .u64 x.num, .slice A1 x.bs.length c1, .slice A2 x.sub.length c2] 26))
  have HK := Lib.hid (Blk.new W 26 #[.int .i64 x.kind, .int .u64 x.num, .slice A1 x.bs.length c1, .slice A2 x.sub.length c2])
  have HB0 := Lib.hid hb0
  have HT0 := Lib.hid (hT.below hb0 (Nat.le_refl _))
  have HS0 := Lib.hid (hs.below hb0)
  have HSN := Lib.hid hsane
  have HX := Lib.hid hb
  have hz0 : (W.alloc (.cells #[.int .i64 x.kind, .int .u64 x.num, .slice A1 x.bs.length c1, .slice A2 x.sub.length c2] 26)).heap.size = W.heap.size + 1 := by simp
  clear hv hb0 hT hs hb hsane
  have HM := Lib.hid hm
  unfold maxLen at hm
  go_enter Tryd.func6, Tryd.ntmps6
  go_wp2_with fail
  generalize W.alloc (.cells #[.int .i64 x.kind, .int .u64 x.num, .slice A1 x.bs.length c1, .slice A2 x.sub.length c2] 26) = W0 at *
  refine (great_any x _ W0 (HV.out.more (Nat.le_refl _) (by omega))).mono ?_
  rintro e w1 ⟨rfl, hb1⟩
  have HV1 := Lib.hid (HV.out.below (hb1.mono (by omega)))
  have HK1 := Lib.hid (HK.out.next hb1)
  have HB1 := Lib.hid (below_next HB0.out (by omega) hb1)
  have HT1 := Lib.hid (HT0.out.below hb1 (Nat.le_refl _))
  have HS1 := Lib.hid (HS0.out.below (hb1.mono (by omega)))
  have hz1 : W.heap.size < w1.heap.size := HK1.out.lt
  clear hb1 HV HK HB0 HT0 HS0 hz0
  by_cases hg : grt x 1 400 < 0
  · rw [show decide (grt x 1 400 < 0) = true from decide_eq_true hg]
    clear hg
    go_wp2_with fail
    refine (alive_any w1 HT1.out).mono ?_
    rintro e w2 ⟨rfl, hb2⟩
    have HB2 := Lib.hid (below_next HB1.out (by omega) hb2)
    clear hb2
    go_wp2_with fail
    go_ret
    exact ⟨rfl, HB2.out⟩
  · rw [show decide (grt x 1 400 < 0) = false from decide_eq_false hg]
    have hok := grt_ok x 1 400 (by omega) (by omega) (by omega)
    have hle : (enc x).length ≤ 1203600 := by
      have := hok.1
      have := hok.2.2
      omega
    have hsz : size x ≤ 400 := by have := hok.1; omega
    have hdp : deep x ≤ 9 := by have := hok.2.1; omega
    clear hok hg
    by_cases hbl : (100 : Int) < xs.length
    · have t0 : decide ((100 : Int) < (xs.length : Int)) = true := decide_eq_true hbl
      go_wp2_with fail
      refine (alive_any w1 HT1.out).mono ?_
      rintro e w2 ⟨rfl, hb2⟩
      have HB2 := Lib.hid (below_next HB1.out (by omega) hb2)
      clear hb2
      go_wp2_with fail
      go_ret
      exact ⟨rfl, HB2.out⟩
    · have t0 : decide ((100 : Int) < (xs.length : Int)) = false := decide_eq_false hbl
      have q0 := HK1.out.cell 0
      have q1 := HK1.out.cell 1
      have q2 := HK1.out.cell 2
      have q3 := HK1.out.cell 3
      simp only [List.getElem?_toArray, List.getElem?_cons_zero, List.getElem?_cons_succ] at q0 q1 q2 q3
      cases hr : right x
      · have CW := Lib.hid (write_no x _ W.heap.size w1 HV1.out (by omega) HT1.out hr)
        clear hr
        go_wp2_with fail
        refine CW.out.mono ?_
        rintro e w2 ⟨rfl, hb2⟩
        have HB2 := Lib.hid (below_next HB1.out (by omega) hb2)
        have HT2 := Lib.hid (HT1.out.below hb2 (Nat.le_refl _))
        have hz2 := hb2.size
        clear hb2 q0 q1 q2 q3
        go_wp2_with fail
        refine (alive_any w2 HT2.out).mono ?_
        rintro e w3 ⟨rfl, hb3⟩
        have HB3 := Lib.hid (below_next HB2.out (by omega) hb3)
        clear hb3
        go_wp2_with fail
        go_ret
        exact ⟨rfl, HB3.out⟩
      · have CW := Lib.hid (write_yes x _ W.heap.size w1 HV1.out (by omega) HT1.out hr (by omega))
        have HR := Lib.hid hr
        have HRB := Lib.hid (read_back x xs hr HSN.out (by omega))
        have HEB := Lib.hid (enc_bts x (right_fine hr) HSN.out (by omega))
        clear hr
        go_wp2_with fail
        refine CW.out.mono ?_
        rintro e w2 ⟨A3, rfl, HS2, hb2⟩
        have HV2 := Lib.hid (HV1.out.below (hb2.mono (by omega)))
        have HK2 := Lib.hid (HK1.out.next hb2)
        have HB2 := Lib.hid (below_next HB1.out (by omega) hb2)
        have HT2 := Lib.hid (HT1.out.below hb2 (Nat.le_refl _))
        have HX2 := Lib.hid (HS1.out.below (hb2.mono (by omega)))
        have hz2 := hb2.size
        generalize hE : enc x = E at *
        clear hb2 q0 q1 q2 q3 CW HK1 HV1 HB1 HT1 HS1
        obtain ⟨i0, z0, hi0, hz0, hz1', hz2', hz3⟩ : ∃ i z, Tryd.prog.info? 5 = some i ∧ i.zero = some z ∧ i.size = 1 ∧ z.cells.size = 1 ∧ i.bytes = 1 := ⟨_, _, rfl, rfl, rfl, rfl, rfl⟩
        have hmx : ∀ k, k ≤ 2000000 → k ≤ maxLen := fun k hk => by unfold maxLen; omega
        have HMX := Lib.hid hmx
        clear hmx
        go_wp2_with first
          | (at_builtin
             refine wpList_append_lst _ rfl (.tmp 32) (.tmp 33) _ (by rfl) w2.heap.size 5 i0 _ 1 Tryd.underlying23 hi0 hz0 hz1' hz3 hz2' (.slice (some ⟨w2.heap.size, 0, none⟩) 0 0) 0 [] (by rfl)
               (World.ownsRow_lit w2 #[] 0 (Nat.le_refl _) (HMX.out 0 (by omega)) rfl) w2.heap.size A3 E.length E.length (u8s E) (by rfl) (by simp) (HS2.out.lst.below ((Below.refl w2.heap.size w2).alloc (Nat.le_refl _) _)) (u8_one E) (HMX.out _ (by omega)) (by omega) (by simp) ?_
             intro v2 w3 hown2 hg2 hat2
             have hb2 : Below w2.heap.size w2 w3 := ((Below.refl _ _).alloc (Nat.le_refl _) _).grown hg2 (by simp) (fun k hk => by simp [Value.ownBlock] at hk; omega)
             have hat2' : ∀ k, v2.ownBlock = some k → w2.heap.size ≤ k := fun k hk => by rcases hat2 with e | e <;> rw [e] at hk <;> simp [Value.ownBlock] at hk <;> omega
             have HO2 := Lib.hid hown2
             have HB3 := Lib.hid hb2
             have HA2 := Lib.hid hat2'
             clear hown2 hg2 hat2 hb2 hat2')
          | (at_builtin
             refine wpList_append_lst _ rfl (.tmp 34) (.tmp 35) _ (by rfl) w2.heap.size 5 i0 _ 1 Tryd.underlying23 hi0 hz0 hz1' hz3 hz2' v2 (0 + E.length) ([] ++ u8s E) (by rfl)
               HO2.out W.heap.size A xs.length c (u8s xs) (by rfl) (by simp) (HX2.out.below (HB3.out.mono (by omega))) (u8_one xs) (HMX.out _ (by omega)) (by omega) HB3.out.size ?_
             intro v3 w4 hown3 hg3 hat3
             have hb3 : Below w2.heap.size w2 w4 := HB3.out.grown hg3 HB3.out.size HA2.out
             have HO3 := Lib.hid hown3
             have HB4 := Lib.hid hb3
             clear hown3 hg3 hat3 hb3)
          | fail
        have ho3 : w4.ownsRow w2.heap.size 5 1 v3 (E ++ xs).length (u8s (E ++ xs)) := by
          have h := HO3.out
          simpa [u8s, Nat.add_assoc] using h
        have hLL : (E ++ xs).length = 0 + E.length + xs.length := by simp
        obtain ⟨A4, c4, rfl, hc4, hm4, _⟩ := own_slice ho3
        have HL4 := Lib.hid (Lst.of_own ho3)
        have HT4 := Lib.hid (HT2.out.below HB4.out (Nat.le_refl _))
        have HV4 := Lib.hid (HV2.out.below (HB4.out.mono (by omega)))
        have HK4 := Lib.hid (HK2.out.below HB4.out (by omega))
        have HS4 := Lib.hid (HS2.out.below HB4.out)
        have HBW4 := Lib.hid (below_next HB2.out (by omega) HB4.out)
        have hz4 := HB4.out.size
        clear ho3 HO3 HO2 HB3 HA2 HV2 HK2 HB2 HT2 HX2 HS2
        have hbt : St.bts (E ++ xs) := fun z hz => by
          rcases List.mem_append.1 hz with h | h
          · exact HEB.out z h
          · exact HX.out z h
        refine (read_the A4 w4.heap.size c4 (E ++ xs).length (E ++ xs) 0 w4 rfl HL4.out (Nat.le_refl _) hbt hc4 hm4 (by rw [hLL]; omega) HT4.out _ HRB.out).mono ?_
        rintro e w5 ⟨v5, rfl, HI5, hb5'⟩
        have hb5 := hb5'.out
        obtain ⟨k5, n5, A5, b5, c5, A6, b6, c6, rfl⟩ := ItemV_four HI5.out
        have hz5 : w4.heap.size ≤ w5.heap.size := hb5.size
        have HK5 := Lib.hid ((HK4.out.next hb5).alloc (.cells #[.int .i64 k5, .int .u64 n5, .slice A5 b5 c5, .slice A6 b6 c6] 26))
        have HK5' := Lib.hid (Blk.new w5 26 #[.int .i64 k5, .int .u64 n5, .slice A5 b5 c5, .slice A6 b6 c6])
        have HB5 := Lib.hid ((below_next HBW4.out (by omega) hb5).alloc (by omega) (.cells #[.int .i64 k5, .int .u64 n5, .slice A5 b5 c5, .slice A6 b6 c6] 26))
        have HV5 := Lib.hid ((HV4.out.below (hb5.mono (by omega))).alloc (by omega) (.cells #[.int .i64 k5, .int .u64 n5, .slice A5 b5 c5, .slice A6 b6 c6] 26))
        have HY5 := Lib.hid ((HI5.out.more (Nat.zero_le _) (Nat.le_refl _)).alloc (Nat.le_refl _) (.cells #[.int .i64 k5, .int .u64 n5, .slice A5 b5 c5, .slice A6 b6 c6] 26))
        have HT5 := Lib.hid ((HT4.out.below hb5 (Nat.le_refl _)).below ((Below.refl w5.heap.size w5).alloc (Nat.le_refl _) (.cells #[.int .i64 k5, .int .u64 n5, .slice A5 b5 c5, .slice A6 b6 c6] 26)) (Nat.le_refl _))
        have HS5 := Lib.hid ((HS4.out.below (hb5.mono (by omega))).alloc (by omega) (.cells #[.int .i64 k5, .int .u64 n5, .slice A5 b5 c5, .slice A6 b6 c6] 26))
        have q0 := (HK4.out.next hb5).cell 0
        have q1 := (HK4.out.next hb5).cell 1
        have q2 := (HK4.out.next hb5).cell 2
        have q3 := (HK4.out.next hb5).cell 3
        have p0 := HK5'.out.cell 0
        have p1 := HK5'.out.cell 1
        have p2 := HK5'.out.cell 2
        have p3 := HK5'.out.cell 3
        simp only [List.getElem?_toArray, List.getElem?_cons_zero, List.getElem?_cons_succ] at q0 q1 q2 q3 p0 p1 p2 p3
        have hW5 : W.heap.size < w5.heap.size := by omega
        have hne : ((E.length : Int) != (E.length : Int)) = false := by simp
        have CS := Lib.hid (sameTop_any x x _ _ w5.heap.size _ (HV5.out.more (Nat.le_refl _) (by omega)) HY5.out (by simp) (by omega) (by omega))
        clear hb5 hb5' HI5 HK4 HBW4 HV4 HT4 HS4 HL4
        go_wp2_with fail
        refine CS.out.mono ?_
        rintro e w6 ⟨rfl, hb6⟩
        rw [same_self x]
        have hz6 := hb6.size
        simp only [World.size_alloc] at hz6
        have HK6 := Lib.hid (HK5.out.next hb6)
        have HB6 := Lib.hid (below_next HB5.out (by simp; omega) hb6)
        have HT6 := Lib.hid (HT5.out.below hb6 (Nat.le_refl _))
        have HS6 := Lib.hid (HS5.out.below (hb6.mono (by simp; omega)))
        clear hb6 q0 q1 q2 q3 p0 p1 p2 p3 hne CS HK5 HK5' HB5 HV5 HY5 HT5 HS5
        by_cases hneg : cut < 0
        · have t1 : decide (cut < 0) = true := decide_eq_true hneg
          clear hneg
          go_wp2_with fail
          refine (alive_any w6 HT6.out).mono ?_
          rintro e w7 ⟨rfl, hb7⟩
          have HB7 := Lib.hid (below_next HB6.out (by omega) hb7)
          clear hb7
          go_wp2_with fail
          go_ret
          exact ⟨rfl, HB7.out⟩
        · have t1 : decide (cut < 0) = false := decide_eq_false hneg
          by_cases hge : (E.length : Int) ≤ cut
          · have t2 : decide ((E.length : Int) ≤ cut) = true := decide_eq_true hge
            clear hneg hge
            go_wp2_with fail
            refine (alive_any w6 HT6.out).mono ?_
            rintro e w7 ⟨rfl, hb7⟩
            have HB7 := Lib.hid (below_next HB6.out (by omega) hb7)
            clear hb7
            go_wp2_with fail
            go_ret
            exact ⟨rfl, HB7.out⟩
          · have t2 : decide ((E.length : Int) ≤ cut) = false := decide_eq_false hge
            obtain ⟨n, rfl⟩ : ∃ n : Nat, cut = n := ⟨cut.toNat, by omega⟩
            have hn : n < E.length := by omega
            have hlt : (E.take n).length = n := by simp; omega
            have HRC := Lib.hid (read_cut x n HR.out HSN.out (by rw [hE]; omega) (by rw [hE]; exact hn))
            have HSC := Lib.hid ((HS6.out.more (Nat.zero_le _) (show w2.heap.size ≤ w6.heap.size by omega)).lst.prefix_ n)
            have hbt : St.bts (E.take n) := fun z hz => HEB.out z (List.mem_of_mem_take hz)
            have HBT := Lib.hid hbt
            rw [hE] at HRC
            clear hneg hge hbt
            go_wp2_with fail
            refine (read_the A3 w6.heap.size E.length n (E.take n) 0 w6 hlt (HSC.out.more (by omega)) (Nat.le_refl _) HBT.out (by omega) (HMX.out _ (by omega)) (by omega) HT6.out _ HRC.out).mono ?_
            rintro e w7 ⟨rfl, hb7'⟩
            have HT7 := Lib.hid ((HT6.out.below hb7'.out (Nat.le_refl _)).below ((Below.refl w7.heap.size w7).alloc (Nat.le_refl _) (.cells #[.int .i64 0, .int .u64 0, .slice none 0 0, .slice none 0 0] 26)) (Nat.le_refl _))
            have hz7 := hb7'.out.size
            have HB7 := Lib.hid ((below_next HB6.out (by omega) hb7'.out).alloc (by omega) (.cells #[.int .i64 0, .int .u64 0, .slice none 0 0, .slice none 0 0] 26))
            clear hb7' HSC HBT HRC t1 t2
            go_wp2_with fail
            refine (alive_any _ HT7.out).mono ?_
            rintro e w8 ⟨rfl, hb8⟩
            have HB8 := Lib.hid (below_next HB7.out (by simp; omega) hb8)
            clear hb8
            go_wp2_with fail
            go_ret
            exact ⟨rfl, HB8.out⟩
end Go.Proofs.YtoieadbifhealaaDoor.CborCut
