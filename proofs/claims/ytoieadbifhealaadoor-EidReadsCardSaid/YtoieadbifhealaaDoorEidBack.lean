/- The statement EidBack: its walk. -/
import Derived.Test.YtoieadbifhealaaDoorAlive04
import Derived.Test.YtoieadbifhealaaDoorEidRd
import Derived.Test.YtoieadbifhealaaDoorEidTexts
namespace Go.Proofs.YtoieadbifhealaaDoor.Eid
open Go.RowKit Wd Cb
/-- A name that may be is the one of its item. -/
theorem item_name (x : Nm) (hr : right x = true) : rdOk (itemOf x) = true ∧ rdI (itemOf x) = x := by
  have key : (itemOf x).sub.length = 2 ∧ gI ((itemOf x).sub.getD 1 (iN 0)) = x := by
    rcases kd_cases x with h | h | h
    · obtain rfl := kd_zero_eq x h
      unfold itemOf
      rw [h, if_pos rfl]
      exact ⟨rfl, rfl⟩
    · obtain ⟨e, -⟩ := right_one x hr h
      unfold itemOf
      rw [if_neg (by rw [h]; decide), if_pos h]
      exact ⟨rfl, e.symm⟩
    · obtain ⟨e, h1, h2, h3⟩ := right_two x hr h
      unfold itemOf
      rw [if_neg (by rw [h]; decide), if_neg (by rw [h]; decide)]
      refine ⟨rfl, ?_⟩
      show gT (strOfNums (CbCopy.nums (pathOf x.host x.demux))).data.toList = x
      rw [CbCopy.nums_str, gT_path _ _ (fun hm => (ok_host (mk_all h2 _ hm)).1 rfl)]
      exact e.symm
  have ho : rdOk (itemOf x) = true := by
    unfold rdOk
    rw [key.2, hr, same_self, decide_eq_true key.1]
    rfl
  refine ⟨ho, ?_⟩
  unfold rdI
  rw [ho, if_pos rfl, key.2]
theorem parse_ok (s : ByteArray) (hs : s.size ≤ 4294967280) : (parseOf s).ok := by
  unfold parseOf
  split
  · exact guess_ok _ (by have := Lib.size_eq s; unfold maxLen; omega)
  · exact zero_ok
theorem item_parts (x : Nm) (hx : x.ok) (hr : right x = true) : ∀ k (h : k < (itemOf x).sub.length), ((itemOf x).sub[k]).bs.length ≤ 4000000000 := by
  have key : ∀ z ∈ (itemOf x).sub, z.bs.length ≤ 4000000000 := by
    unfold itemOf
    split
    · intro z hz
      simp [Itm.sub] at hz
      rcases hz with rfl | rfl <;> simp [Itm.bs]
    · split
      · intro z hz
        simp [Itm.sub] at hz
        rcases hz with rfl | rfl <;> simp [Itm.bs]
      · rename_i h0 h1
        intro z hz
        simp [Itm.sub] at hz
        rcases hz with rfl | rfl
        · simp [Itm.bs]
        · show (CbCopy.nums (pathOf x.host x.demux)).length ≤ 4000000000
          rw [CbCopy.nums_length, path_size]
          have := right_texts x hr h0 h1
          omega
  intro k h
  exact key _ (List.getElem_mem h)
end Go.Proofs.YtoieadbifhealaaDoor.Eid
namespace Go.Proofs.YtoieadbifhealaaDoor.EidBack
open Go.RowKit Wd Eid Cb
attribute [local go_sem ↓ high] Eid.run_nm

set_option maxRecDepth 100000 in
set_option maxHeartbeats 8000000 in
theorem walk (x : Nm) (s : ByteArray) (w : World) (hx : x.ok) (hs : s.size ≤ maxLen) (G : Gl w) : Calls Tryd.prog 9 #[x.val, .string s] w fun e w' => e = .returned (.bool true) ∧ Below w.heap.size w w' := by
  have CRx := Lib.hid (fun w' => right_any x hx w')
  have CA := Lib.hid (fun w' g => alive_any w' g)
  have CTx := Lib.hid (fun w' g => text_any x hx w' g)
  have CWx := Lib.hid (fun w' => write_any x hx w')
  have CPt : Hid (right x = true → ∀ w', Gl w' → Calls Tryd.prog 38 #[.string (textOf x)] w' fun e w1 => e = .returned (.tuple #[x.val, .int .i64 0]) ∧ Below w'.heap.size w' w1) := Lib.hid (fun h w' g => by
    have c := parse_any (textOf x) (by have := text_size x hx h; omega) w' g
    rw [(parse_text x hx h).1, (parse_text x hx h).2] at c
    exact c)
  have CRi : Hid (right x = true → ∀ v w', ItemV w' 0 w'.heap.size (itemOf x) v → Gl w' → Calls Tryd.prog 40 #[v] w' fun e w1 => e = .returned (.tuple #[x.val, .int .i64 0]) ∧ Below w'.heap.size w' w1) := Lib.hid (fun h v w' hv g => by
    have c := read_any (itemOf x) v w' hv (item_parts x hx h) g
    have e1 := item_name x h
    have e2 : rdE (itemOf x) = 0 := by unfold rdE; rw [e1.1]; rfl
    rw [e1.2, e2] at c
    exact c)
  have CPs : Hid (s.size ≤ 300 → ∀ w', Gl w' → Calls Tryd.prog 38 #[.string s] w' fun e w1 => e = .returned (.tuple #[(parseOf s).val, .int .i64 (parseE s)]) ∧ Below w'.heap.size w' w1) := Lib.hid (fun h w' g => parse_any s (by omega) w' g)
  have CTy : Hid (s.size ≤ 300 → ∀ w', Gl w' → Calls Tryd.prog 29 #[(parseOf s).val] w' fun e w1 => ∃ t k, e = .returned (.tuple #[.string t, .int .i64 k]) ∧ (parseE s = 0 → t = s ∧ k = 0) ∧ Below w'.heap.size w' w1) := Lib.hid (fun h w' g => by
    refine (text_any (parseOf s) (parse_ok s (by omega)) w' g).mono ?_
    rintro e w1 ⟨rfl, hb⟩
    refine ⟨_, _, rfl, fun h0 => ?_, hb⟩
    have hn : isName s = true := by
      cases hi : isName s
      · unfold parseE at h0; rw [hi] at h0; cases h0
      · rfl
    obtain ⟨r1, r2⟩ := name_text hn
    rw [r1, r2]
    exact ⟨rfl, rfl⟩)
  have CRy : Hid (s.size ≤ 300 → ∀ w', Calls Tryd.prog 31 #[(parseOf s).val] w' fun e w1 => e = .returned (.bool (right (parseOf s))) ∧ Below w'.heap.size w' w1) := Lib.hid (fun h w' => right_any _ (parse_ok s (by omega)) w')
  have HPE : Hid ((parseE s = 0 ∧ right (parseOf s) = true) ∨ parseE s = 3) := Lib.hid (by
    cases hi : isName s
    · right; unfold parseE; rw [hi]; rfl
    · left; exact ⟨by unfold parseE; rw [hi]; rfl, (name_text hi).1⟩)
  have HG := Lib.hid G
  clear hx G
  have HB := Lib.hid ((Below.refl w.heap.size w).alloc (Nat.le_refl _) (.cells x.cells 51))
  have HK := Lib.hid (Blk.new w 51 x.cells)
  have HNE := Lib.hid (nmEq_self x)
  generalize right x = rx at *
  generalize textOf x = tx at *
  generalize itemOf x = Tx at *
  generalize right (parseOf s) = ry at *
  generalize parseOf s = y at *
  generalize parseE s = pe at *
  obtain ⟨xi, xn, xs, xh, xd⟩ := x
  obtain ⟨yi, yn, ys, yh, yd⟩ := y
  go_enter Tryd.func9, Tryd.ntmps9
  go_upto_region 1 with (fail)
  generalize w.alloc (.cells #[.bool xi, .int .u64 xn, .int .u64 xs, .string xh, .string xd] 51) = W at *
  have HGW := Lib.hid (HG.out.below HB.out)
  have KC := Lib.hid (fun (W' : World) (hW : Below W.heap.size W W') => cells5 (HK.out.next hW))
  have HBE : Hid (∀ W', Below W.heap.size W W' → Below w.heap.size w W') := Lib.hid (fun W' h => below_next HB.out HB.out.size h)
  have CG : Hid (∀ W', Below W.heap.size W W' → Gl W') := Lib.hid (fun W' h => HGW.out.below h)
  clear HG HB
  obtain ⟨x0, x1, x2, x3, x4⟩ := KC.out W (Below.refl _ _)
  cases hS : decide (300 < wrap64 ((xh.size : Int) + xd.size))
  rotate_left
  · go_wp2_with fail
    refine (CA.out W HGW.out).mono ?_
    rintro e w1 ⟨rfl, hb⟩
    have HB1 := Lib.hid hb
    clear hb
    go_wp2_with fail
    go_ret
    exact ⟨rfl, HBE.out _ HB1.out⟩
  · cases hM : decide (300 < (s.size : Int))
    rotate_left
    · go_wp2_with fail
      refine (CA.out W HGW.out).mono ?_
      rintro e w1 ⟨rfl, hb⟩
      have HB1 := Lib.hid hb
      clear hb
      go_wp2_with fail
      go_ret
      exact ⟨rfl, HBE.out _ HB1.out⟩
    · have hM2 : s.size ≤ 300 := by have := of_decide_eq_false hM; omega
      have CPs' := Lib.hid (CPs.out hM2)
      have CTy' := Lib.hid (CTy.out hM2)
      have CRy' := Lib.hid (CRy.out hM2)
      clear CPs CTy CRy hM2
      go_wp2_with fail
      clear hS hM
      cases rx
      · simp only [Bool.false_eq_true, if_false] at CTx CWx
        clear CPt CRi
        refine (CTx.out W HGW.out).mono ?_
        rintro e w1 ⟨rfl, hb1⟩
        have HB1 := Lib.hid hb1
        clear hb1 x0 x1 x2 x3 x4 HGW CTx
        obtain ⟨x0, x1, x2, x3, x4⟩ := KC.out w1 HB1.out
        go_wp2_with fail
        refine (CWx.out w1).mono ?_
        rintro e w2 ⟨v, rfl, HI, hb2⟩
        have HB2 := Lib.hid (below_next HB1.out HB1.out.size hb2)
        clear hb2 x0 x1 x2 x3 x4 CWx HB1
        obtain ⟨kb, nb, Ab, lb, cb, Ab', lb', cb', hvb⟩ : ∃ kb nb Ab lb cb Ab' lb' cb', v = .agg #[.int .i64 kb, .int .u64 nb, .slice Ab lb cb, .slice Ab' lb' cb'] := by
          obtain ⟨_, _, _, _, e, _⟩ := HI.out.open_
          exact ⟨_, _, _, _, _, _, _, _, e⟩
        subst hvb
        have HV3 := Lib.hid (Blk.new w2 26 #[.int .i64 kb, .int .u64 nb, .slice Ab lb cb, .slice Ab' lb' cb'])
        have HB3 := Lib.hid (HB2.out.alloc HB2.out.size (.cells #[.int .i64 kb, .int .u64 nb, .slice Ab lb cb, .slice Ab' lb' cb'] 26))
        have HI3 := Lib.hid ((HI.out.alloc (Nat.le_refl _) (.cells #[.int .i64 kb, .int .u64 nb, .slice Ab lb cb, .slice Ab' lb' cb'] 26)).more (Nat.le_refl _) (show w2.heap.size ≤ (w2.alloc (.cells #[.int .i64 kb, .int .u64 nb, .slice Ab lb cb, .slice Ab' lb' cb'] 26)).heap.size by simp))
        clear HI HB2
        go_upto_region 5 with (fail)
        generalize w2.alloc (.cells #[.int .i64 kb, .int .u64 nb, .slice Ab lb cb, .slice Ab' lb' cb'] 26) = W3 at *
        clear HI3 HV3
        obtain ⟨x0, x1, x2, x3, x4⟩ := KC.out W3 HB3.out
        go_wp2_with fail
        refine (CRx.out _).mono ?_
        rintro e w4 ⟨rfl, hb4⟩
        have HB4 := Lib.hid (below_next HB3.out HB3.out.size hb4)
        clear hb4 x0 x1 x2 x3 x4
        obtain ⟨x0, x1, x2, x3, x4⟩ := KC.out w4 HB4.out
        go_wp2_with fail
        refine (CRx.out _).mono ?_
        rintro e w5 ⟨rfl, hb5⟩
        have HB5 := Lib.hid (below_next HB4.out HB4.out.size hb5)
        clear hb5 x0 x1 x2 x3 x4
        go_wp2_with fail
        refine (CPs'.out _ (CG.out _ HB5.out)).mono ?_
        rintro e u1 ⟨rfl, hu1⟩
        have HU1 := Lib.hid (below_next HB5.out HB5.out.size hu1)
        clear hu1
        have HY := Lib.hid (Blk.new u1 51 #[.bool yi, .int .u64 yn, .int .u64 ys, .string yh, .string yd])
        have HU2 := Lib.hid (HU1.out.alloc HU1.out.size (.cells #[.bool yi, .int .u64 yn, .int .u64 ys, .string yh, .string yd] 51))
        go_upto_region 13 with (fail)
        generalize u1.alloc (.cells #[.bool yi, .int .u64 yn, .int .u64 ys, .string yh, .string yd] 51) = U2 at *
        clear HU1
        obtain ⟨y0, y1, y2, y3, y4⟩ := cells5 HY.out
        go_wp2_with fail
        refine (CTy'.out _ (CG.out _ HU2.out)).mono ?_
        rintro e u3 ⟨t, k, rfl, htk, hu3⟩
        have HU3 := Lib.hid (below_next HU2.out HU2.out.size hu3)
        have HY3 := Lib.hid (HY.out.next hu3)
        have HTK := Lib.hid htk
        clear hu3 HU2 HY y0 y1 y2 y3 y4 htk
        go_wp2_with fail
        refine (CA.out _ (CG.out _ HU3.out)).mono ?_
        rintro e u4 ⟨rfl, hu4⟩
        have HU4 := Lib.hid (below_next HU3.out HU3.out.size hu4)
        have HY4 := Lib.hid (HY3.out.next hu4)
        clear hu4 HU3 HY3
        rcases HPE.out with ⟨h0, h1⟩ | h0
        · obtain ⟨ht, hk⟩ := HTK.out h0
          subst h0 h1 ht hk
          obtain ⟨y0, y1, y2, y3, y4⟩ := cells5 HY4.out
          clear HTK HPE
          go_wp2_with fail
          refine (CRy'.out _).mono ?_
          rintro e u5 ⟨rfl, hu5⟩
          have HU5 := Lib.hid (below_next HU4.out HU4.out.size hu5)
          clear hu5 y0 y1 y2 y3 y4
          go_wp2_with fail
          go_ret
          exact ⟨rfl, HBE.out _ HU5.out⟩
        · subst h0
          clear HTK HPE
          go_wp2_with fail
          go_ret
          exact ⟨rfl, HBE.out _ HU4.out⟩
      · simp only [if_true] at CTx CWx
        have CPt' := Lib.hid (CPt.out (by first | rfl | trivial))
        have CRi' := Lib.hid (CRi.out (by first | rfl | trivial))
        clear CPt CRi
        refine (CTx.out W HGW.out).mono ?_
        rintro e w1 ⟨rfl, hb1⟩
        have HB1 := Lib.hid hb1
        clear hb1 x0 x1 x2 x3 x4 HGW CTx
        obtain ⟨x0, x1, x2, x3, x4⟩ := KC.out w1 HB1.out
        go_wp2_with fail
        refine (CWx.out w1).mono ?_
        rintro e w2 ⟨v, rfl, HI, hb2⟩
        have HB2 := Lib.hid (below_next HB1.out HB1.out.size hb2)
        clear hb2 x0 x1 x2 x3 x4 CWx HB1
        obtain ⟨kb, nb, Ab, lb, cb, Ab', lb', cb', hvb⟩ : ∃ kb nb Ab lb cb Ab' lb' cb', v = .agg #[.int .i64 kb, .int .u64 nb, .slice Ab lb cb, .slice Ab' lb' cb'] := by
          obtain ⟨_, _, _, _, e, _⟩ := HI.out.open_
          exact ⟨_, _, _, _, _, _, _, _, e⟩
        subst hvb
        have HV3 := Lib.hid (Blk.new w2 26 #[.int .i64 kb, .int .u64 nb, .slice Ab lb cb, .slice Ab' lb' cb'])
        have HB3 := Lib.hid (HB2.out.alloc HB2.out.size (.cells #[.int .i64 kb, .int .u64 nb, .slice Ab lb cb, .slice Ab' lb' cb'] 26))
        have HI3 := Lib.hid ((HI.out.alloc (Nat.le_refl _) (.cells #[.int .i64 kb, .int .u64 nb, .slice Ab lb cb, .slice Ab' lb' cb'] 26)).more (Nat.le_refl _) (show w2.heap.size ≤ (w2.alloc (.cells #[.int .i64 kb, .int .u64 nb, .slice Ab lb cb, .slice Ab' lb' cb'] 26)).heap.size by simp))
        clear HI HB2
        go_upto_region 5 with (fail)
        generalize w2.alloc (.cells #[.int .i64 kb, .int .u64 nb, .slice Ab lb cb, .slice Ab' lb' cb'] 26) = W3 at *
        obtain ⟨x0, x1, x2, x3, x4⟩ := KC.out W3 HB3.out
        go_wp2_with fail
        refine (CRx.out _).mono ?_
        rintro e w4 ⟨rfl, hb4⟩
        have HW34 := Lib.hid hb4
        have HB4 := Lib.hid (below_next HB3.out HB3.out.size hb4)
        clear hb4 x0 x1 x2 x3 x4
        obtain ⟨x0, x1, x2, x3, x4⟩ := KC.out w4 HB4.out
        go_wp2_with fail
        refine (CRx.out _).mono ?_
        rintro e w5 ⟨rfl, hb5⟩
        have HW45 := Lib.hid hb5
        have HB5 := Lib.hid (below_next HB4.out HB4.out.size hb5)
        clear hb5 x0 x1 x2 x3 x4
        go_wp2_with fail
        have HV5 := Lib.hid ((HV3.out.next (show Below W3.heap.size W3 w4 from HW34.out)).next HW45.out)
        have HI5 := Lib.hid (((HI3.out.below HW34.out).more (Nat.le_refl _) HW34.out.size).below HW45.out)
        clear HV3 HI3 HB3 HB4
        refine (CPt'.out _ (CG.out _ HB5.out)).mono ?_
        rintro e w6 ⟨rfl, hb6⟩
        have HB6 := Lib.hid (below_next HB5.out HB5.out.size hb6)
        have HV6 := Lib.hid (HV5.out.next hb6)
        have HI6 := Lib.hid ((HI5.out.more (Nat.le_refl _) HW45.out.size).below hb6)
        have HZ6 := Lib.hid hb6.size
        clear hb6 HV5 HI5 HB5
        have HP7 := Lib.hid (Blk.new w6 51 #[.bool xi, .int .u64 xn, .int .u64 xs, .string xh, .string xd])
        have HB7 := Lib.hid (HB6.out.alloc HB6.out.size (.cells #[.bool xi, .int .u64 xn, .int .u64 xs, .string xh, .string xd] 51))
        have HV7 := Lib.hid (HV6.out.alloc (.cells #[.bool xi, .int .u64 xn, .int .u64 xs, .string xh, .string xd] 51))
        have HI7 := Lib.hid (((HI6.out.more (Nat.le_refl _) HZ6.out).alloc (Nat.le_refl _) (.cells #[.bool xi, .int .u64 xn, .int .u64 xs, .string xh, .string xd] 51)).more (Nat.le_refl _) (show w6.heap.size ≤ (w6.alloc (.cells #[.bool xi, .int .u64 xn, .int .u64 xs, .string xh, .string xd] 51)).heap.size by simp))
        clear HV6 HI6 HB6 HZ6
        go_upto_region 9 with (fail)
        generalize w6.alloc (.cells #[.bool xi, .int .u64 xn, .int .u64 xs, .string xh, .string xd] 51) = W7 at *
        obtain ⟨v0, v1, v2, v3⟩ := cell4 HV7.out
        go_wp2_with fail
        refine (CRi'.out _ _ HI7.out (CG.out _ HB7.out)).mono ?_
        rintro e w8 ⟨rfl, hb8⟩
        have HB8 := Lib.hid (below_next HB7.out HB7.out.size hb8)
        have HP8 := Lib.hid (HP7.out.next hb8)
        clear hb8 v0 v1 v2 v3 HV7 HI7 HP7 HB7
        have HQ9 := Lib.hid (Blk.new w8 51 #[.bool xi, .int .u64 xn, .int .u64 xs, .string xh, .string xd])
        have HB9 := Lib.hid (HB8.out.alloc HB8.out.size (.cells #[.bool xi, .int .u64 xn, .int .u64 xs, .string xh, .string xd] 51))
        have HP9 := Lib.hid (HP8.out.alloc (.cells #[.bool xi, .int .u64 xn, .int .u64 xs, .string xh, .string xd] 51))
        clear HB8 HP8
        go_upto_region 10 with (fail)
        generalize w8.alloc (.cells #[.bool xi, .int .u64 xn, .int .u64 xs, .string xh, .string xd] 51) = W9 at *
        obtain ⟨x0, x1, x2, x3, x4⟩ := KC.out W9 HB9.out
        obtain ⟨p0, p1, p2, p3, p4⟩ := cells5 HP9.out
        obtain ⟨q0, q1, q2, q3, q4⟩ := cells5 HQ9.out
        have hne := HNE.out
        go_wp2_with fail
        clear x0 x1 x2 x3 x4 p0 p1 p2 p3 p4 q0 q1 q2 q3 q4 hne HP9 HQ9
        refine (CPs'.out _ (CG.out _ HB9.out)).mono ?_
        rintro e u1 ⟨rfl, hu1⟩
        have HU1 := Lib.hid (below_next HB9.out HB9.out.size hu1)
        clear hu1
        have HY := Lib.hid (Blk.new u1 51 #[.bool yi, .int .u64 yn, .int .u64 ys, .string yh, .string yd])
        have HU2 := Lib.hid (HU1.out.alloc HU1.out.size (.cells #[.bool yi, .int .u64 yn, .int .u64 ys, .string yh, .string yd] 51))
        go_upto_region 13 with (fail)
        generalize u1.alloc (.cells #[.bool yi, .int .u64 yn, .int .u64 ys, .string yh, .string yd] 51) = U2 at *
        clear HU1
        obtain ⟨y0, y1, y2, y3, y4⟩ := cells5 HY.out
        go_wp2_with fail
        refine (CTy'.out _ (CG.out _ HU2.out)).mono ?_
        rintro e u3 ⟨t, k, rfl, htk, hu3⟩
        have HU3 := Lib.hid (below_next HU2.out HU2.out.size hu3)
        have HY3 := Lib.hid (HY.out.next hu3)
        have HTK := Lib.hid htk
        clear hu3 HU2 HY y0 y1 y2 y3 y4 htk
        go_wp2_with fail
        refine (CA.out _ (CG.out _ HU3.out)).mono ?_
        rintro e u4 ⟨rfl, hu4⟩
        have HU4 := Lib.hid (below_next HU3.out HU3.out.size hu4)
        have HY4 := Lib.hid (HY3.out.next hu4)
        clear hu4 HU3 HY3
        rcases HPE.out with ⟨h0, h1⟩ | h0
        · obtain ⟨ht, hk⟩ := HTK.out h0
          subst h0 h1 ht hk
          obtain ⟨y0, y1, y2, y3, y4⟩ := cells5 HY4.out
          clear HTK HPE
          go_wp2_with fail
          refine (CRy'.out _).mono ?_
          rintro e u5 ⟨rfl, hu5⟩
          have HU5 := Lib.hid (below_next HU4.out HU4.out.size hu5)
          clear hu5 y0 y1 y2 y3 y4
          go_wp2_with fail
          go_ret
          exact ⟨rfl, HBE.out _ HU5.out⟩
        · subst h0
          clear HTK HPE
          go_wp2_with fail
          go_ret
          exact ⟨rfl, HBE.out _ HU4.out⟩
end Go.Proofs.YtoieadbifhealaaDoor.EidBack
