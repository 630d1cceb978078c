/- The contract of eid.Read. -/
import Derived.Test.YthknkdphofjmhaaDoorZgm
namespace Go.Proofs.YthknkdphofjmhaaDoor.Eid
open Go.RowKit Wd Cb

set_option maxRecDepth 100000 in
set_option maxHeartbeats 4000000 in
theorem read_all (x : Itm) (v : Value) (w : World) (hv : ItemV w 0 w.heap.size x v) :
    Calls Tryd.prog 76 #[v] w fun e w' => e = .returned (.tuple #[(rdI x).val, .int .i64 (rdE x)]) ∧ Below w.heap.size w w' := by
  obtain ⟨A, c, A', c', rfl, hk, hn, hb, h1, h2, h3, h4, h5, h6⟩ := hv.open_
  have HB := Lib.hid (((Below.refl w.heap.size w).alloc (Nat.le_refl _) (.cells #[.int .i64 x.kind, .int .u64 x.num, .slice A x.bs.length c, .slice A' x.sub.length c'] 26)).alloc (by simp) (.cells #[.bool false, .int .u64 0, .int .u64 0, .string ⟨#[]⟩, .string ⟨#[]⟩] 48))
  have HK := Lib.hid ((Blk.new w 26 #[.int .i64 x.kind, .int .u64 x.num, .slice A x.bs.length c, .slice A' x.sub.length c']).alloc (.cells #[.bool false, .int .u64 0, .int .u64 0, .string ⟨#[]⟩, .string ⟨#[]⟩] 48))
  have HZ := Lib.hid (Blk.new (w.alloc (.cells #[.int .i64 x.kind, .int .u64 x.num, .slice A x.bs.length c, .slice A' x.sub.length c'] 26)) 48 #[.bool false, .int .u64 0, .int .u64 0, .string ⟨#[]⟩, .string ⟨#[]⟩])
  rw [World.size_alloc] at HZ
  have HX := Lib.hid (hv.below HB.out)
  have HI := Lib.hid (h6.below HB.out)
  clear hv h3 h6 hk hn hb
  unfold maxLen at h5 h2
  go_enter Tryd.func76, Tryd.ntmps76
  by_cases h : x.sub.length = 2
  rotate_left
  · have t0 : ((x.sub.length : Int) != 2) = true := by simp only [bne_iff_ne, ne_eq]; omega
    have HN := Lib.hid (show rdOk x = false by unfold rdOk; rw [decide_eq_false h]; rfl)
    have HR := Lib.hid (show (rdI x).val = zeroNm.val by unfold rdI; rw [HN.out]; rfl)
    have HE := Lib.hid (show rdE x = 3 by unfold rdE; rw [HN.out]; rfl)
    obtain ⟨k0, k1, k2, k3⟩ := cell4 HK.out
    obtain ⟨c0, c1, c2, c3, c4⟩ := cells5 HZ.out
    obtain ⟨f0, f1, f2, f3, f4⟩ := froz5 HZ.out
    go_wp2_with fail
    refine bodyPost_ret (v := .tuple #[(rdI x).val, .int .i64 (rdE x)]) (by rw [HR.out, HE.out]; simp [results, Tryd.results76, go_sem, *]) rfl ⟨rfl, ?_⟩
    exact HB.out
  · obtain ⟨b, o, A3, e3, A4, e4, rfl, -, -, g0, g1, g2, g3, p1, p2, p3, p4, p5, p6, p7, p8, p9⟩ := HI.out.at_ (k := 1) (by omega)
    have hgd : x.sub.getD 1 (iN 0) = x.sub[1]'(by omega) := by simp only [List.getD, List.getElem?_eq_getElem (show 1 < x.sub.length by omega), Option.getD_some]
    generalize x.sub[1]'(by omega) = z at *
    have HNUM : Hid (∀ k (h : k < z.sub.length), 0 ≤ (z.sub[k]).num ∧ (z.sub[k]).num ≤ 18446744073709551615) := Lib.hid (fun k hk => by
      obtain ⟨_, _, _, _, _, _, _, _, _, _, _, _, _, _, q, _⟩ := p9.at_ hk
      exact q)
    have HZV := Lib.hid (ItemV.of p1 p2 p3 p4 p5 p6 p7 p8 p9)
    have HOK : Hid (rdOk x = (right (gI z) && same (itemOf (gI z)) x)) := Lib.hid (by unfold rdOk; rw [decide_eq_true h, hgd]; rfl)
    have HRI : Hid (rdI x = if rdOk x then gI z else zeroNm) := Lib.hid (by unfold rdI; rw [hgd])
    have HRE : Hid (rdE x = if rdOk x then 0 else 3) := Lib.hid rfl
    have HYO := Lib.hid (gI_ok z HNUM.out (Nat.le_trans p4 p5))
    have CGI := Lib.hid (fun w' hvi => guessItem_all z (.agg #[.int .i64 z.kind, .int .u64 z.num, .slice A3 z.bs.length e3, .slice A4 z.sub.length e4]) w' hvi)
    clear p1 p2 p3 p4 p5 p6 p7 p8 p9 HNUM hgd
    simp only [Nat.one_mul] at g0 g1 g2 g3
    have HL := Lib.hid h
    clear HI
    generalize hL : x.sub.length = L at *
    subst h
    clear hL HL
    obtain ⟨k0, k1, k2, k3⟩ := cell4 HK.out
    go_wp2_with fail
    generalize (w.alloc (.cells #[.int .i64 x.kind, .int .u64 x.num, .slice A x.bs.length c, .slice (some ⟨b, o, none⟩) 2 c'] 26)).alloc (.cells #[.bool false, .int .u64 0, .int .u64 0, .string ⟨#[]⟩, .string ⟨#[]⟩] 48) = W at *
    refine (CGI.out W (HZV.out.more (Nat.le_refl _) HB.out.size)).mono ?_
    rintro e w1 ⟨rfl, hb1⟩
    have HY := Lib.hid (show gI z = gI z from rfl)
    generalize hy : gI z = y at *
    clear hy HY g0 g1 g2 g3 k0 k1 k2 k3 CGI HZV
    have HB1 := Lib.hid (below_next HB.out HB.out.size hb1)
    have HK1 := Lib.hid (HK.out.next hb1)
    have HZ1 := Lib.hid (HZ.out.next hb1)
    have HX1 := Lib.hid (HX.out.below (hb1.mono HB.out.size))
    clear hb1 HB HK HZ HX
    have CW := Lib.hid (fun w' => write_any y HYO.out w')
    have HQ := Lib.hid (show y = y from rfl)
    have CS := Lib.hid (fun u u' B w' => CbSame.sameTop_any (itemOf y) x u u' B w')
    have HSZ := Lib.hid (itemOf_size y)
    generalize hr : right y = r at *
    generalize itemOf y = T at *
    clear hr HQ
    obtain ⟨i, n, s5, hh, d⟩ := y
    have HY2 := Lib.hid (Blk.new w1 48 #[.bool i, .int .u64 n, .int .u64 s5, .string hh, .string d])
    have HB2 := Lib.hid (HB1.out.alloc HB1.out.size (.cells #[.bool i, .int .u64 n, .int .u64 s5, .string hh, .string d] 48))
    have HK2 := Lib.hid (HK1.out.alloc (.cells #[.bool i, .int .u64 n, .int .u64 s5, .string hh, .string d] 48))
    have HZ2 := Lib.hid (HZ1.out.alloc (.cells #[.bool i, .int .u64 n, .int .u64 s5, .string hh, .string d] 48))
    have HX2 := Lib.hid (HX1.out.alloc HB1.out.size (.cells #[.bool i, .int .u64 n, .int .u64 s5, .string hh, .string d] 48))
    clear HB1 HK1 HZ1 HX1
    go_wp2_with fail
    refine (CW.out _).mono ?_
    rintro e w2 ⟨vb, rfl, HIB, hb2⟩
    have HB3 := Lib.hid (below_next HB2.out HB2.out.size hb2)
    have HK3 := Lib.hid (HK2.out.next hb2)
    have HZ3 := Lib.hid (HZ2.out.next hb2)
    have HY3 := Lib.hid (HY2.out.next hb2)
    have HX3 := Lib.hid (HX2.out.below (hb2.mono HB2.out.size))
    clear hb2 HB2 HK2 HZ2 HY2 HX2 CW
    obtain ⟨kb, nb, Ab, lb, cb, Ab', lb', cb', hvb⟩ : ∃ kb nb Ab lb cb Ab' lb' cb', vb = .agg #[.int .i64 kb, .int .u64 nb, .slice Ab lb cb, .slice Ab' lb' cb'] := by
      obtain ⟨_, _, _, _, e, _⟩ := HIB.out.open_
      exact ⟨_, _, _, _, _, _, _, _, e⟩
    subst hvb
    have HV4 := Lib.hid (Blk.new w2 26 #[.int .i64 kb, .int .u64 nb, .slice Ab lb cb, .slice Ab' lb' cb'])
    have HB4 := Lib.hid (HB3.out.alloc HB3.out.size (.cells #[.int .i64 kb, .int .u64 nb, .slice Ab lb cb, .slice Ab' lb' cb'] 26))
    have HK4 := Lib.hid (HK3.out.alloc (.cells #[.int .i64 kb, .int .u64 nb, .slice Ab lb cb, .slice Ab' lb' cb'] 26))
    have HZ4 := Lib.hid (HZ3.out.alloc (.cells #[.int .i64 kb, .int .u64 nb, .slice Ab lb cb, .slice Ab' lb' cb'] 26))
    have HY4 := Lib.hid (HY3.out.alloc (.cells #[.int .i64 kb, .int .u64 nb, .slice Ab lb cb, .slice Ab' lb' cb'] 26))
    have HX4 := Lib.hid ((HX3.out.alloc HB3.out.size (.cells #[.int .i64 kb, .int .u64 nb, .slice Ab lb cb, .slice Ab' lb' cb'] 26)).more (Nat.le_refl _) HB4.out.size)
    have HI4 := Lib.hid ((HIB.out.alloc (Nat.le_refl _) (.cells #[.int .i64 kb, .int .u64 nb, .slice Ab lb cb, .slice Ab' lb' cb'] 26)).more (Nat.le_refl _) (show w2.heap.size ≤ (w2.alloc (.cells #[.int .i64 kb, .int .u64 nb, .slice Ab lb cb, .slice Ab' lb' cb'] 26)).heap.size by simp))
    clear HIB HB3 HK3 HZ3 HY3 HX3
    go_upto_region 5 with (fail)
    generalize w2.alloc (.cells #[.int .i64 kb, .int .u64 nb, .slice Ab lb cb, .slice Ab' lb' cb'] 26) = W4 at *
    cases r
    · have HN := Lib.hid (show rdOk x = false by rw [HOK.out]; rfl)
      have HR := Lib.hid (show (rdI x).val = zeroNm.val by rw [HRI.out, HN.out]; rfl)
      have HE := Lib.hid (show rdE x = 3 by rw [HRE.out, HN.out]; rfl)
      try simp only [Bool.false_eq_true, if_false]
      obtain ⟨c0, c1, c2, c3, c4⟩ := cells5 HZ4.out
      obtain ⟨f0, f1, f2, f3, f4⟩ := froz5 HZ4.out
      go_wp2_with fail
      have HK9 := Lib.hid (set5_blk HZ4.out (.bool false) (.int .u64 0) (.int .u64 0) (.string ⟨#[]⟩) (.string ⟨#[]⟩))
      have HB9 := Lib.hid (set5_below HB4.out (Nat.le_succ _) (.bool false) (.int .u64 0) (.int .u64 0) (.string ⟨#[]⟩) (.string ⟨#[]⟩))
      clear c0 c1 c2 c3 c4 f0 f1 f2 f3 f4
      generalize hW9 : set5 W4 (w.heap.size + 1) (.bool false) (.int .u64 0) (.int .u64 0) (.string ⟨#[]⟩) (.string ⟨#[]⟩) = W9 at HK9 HB9
      unfold set5 at hW9
      rw [hW9]
      obtain ⟨c0, c1, c2, c3, c4⟩ := cells5 HK9.out
      refine bodyPost_ret (v := .tuple #[(rdI x).val, .int .i64 (rdE x)]) (by rw [HR.out, HE.out]; simp [results, Tryd.results76, go_sem, *]) rfl ⟨rfl, HB9.out⟩
    · simp only [if_true] at HI4
      try simp only [if_true]
      have HOK2 := Lib.hid (show rdOk x = same T x by rw [HOK.out]; rfl)
      have CSx := Lib.hid (CS.out _ _ _ _ HI4.out HX4.out (Nat.le_refl _) (by have := HSZ.out.1; omega) (by have := HSZ.out.2; omega))
      obtain ⟨v0, v1, v2, v3⟩ := cell4 HV4.out
      obtain ⟨k0, k1, k2, k3⟩ := cell4 HK4.out
      go_wp2_with fail
      refine CSx.out.mono ?_
      rintro e w5 ⟨rfl, hb5⟩
      have HB5 := Lib.hid (below_next HB4.out HB4.out.size hb5)
      have HZ5 := Lib.hid (HZ4.out.next hb5)
      have HY5 := Lib.hid (HY4.out.next hb5)
      clear hb5 v0 v1 v2 v3 k0 k1 k2 k3 CSx CS HI4 HX4 HV4 HB4 HK4 HZ4 HY4 HOK
      generalize same T x = sm at *
      obtain ⟨c0, c1, c2, c3, c4⟩ := cells5 HZ5.out
      obtain ⟨f0, f1, f2, f3, f4⟩ := froz5 HZ5.out
      cases sm
      · have HR := Lib.hid (show (rdI x).val = zeroNm.val by rw [HRI.out, HOK2.out]; rfl)
        have HE := Lib.hid (show rdE x = 3 by rw [HRE.out, HOK2.out]; rfl)
        go_wp2_with fail
        have HK9 := Lib.hid (set5_blk HZ5.out (.bool false) (.int .u64 0) (.int .u64 0) (.string ⟨#[]⟩) (.string ⟨#[]⟩))
        have HB9 := Lib.hid (set5_below HB5.out (Nat.le_succ _) (.bool false) (.int .u64 0) (.int .u64 0) (.string ⟨#[]⟩) (.string ⟨#[]⟩))
        clear c0 c1 c2 c3 c4 f0 f1 f2 f3 f4
        generalize hW9 : set5 w5 (w.heap.size + 1) (.bool false) (.int .u64 0) (.int .u64 0) (.string ⟨#[]⟩) (.string ⟨#[]⟩) = W9 at HK9 HB9
        unfold set5 at hW9
        rw [hW9]
        obtain ⟨c0, c1, c2, c3, c4⟩ := cells5 HK9.out
        refine bodyPost_ret (v := .tuple #[(rdI x).val, .int .i64 (rdE x)]) (by rw [HR.out, HE.out]; simp [results, Tryd.results76, go_sem, *]) rfl ⟨rfl, HB9.out⟩
      · have HR := Lib.hid (show (rdI x).val = Nm.val ⟨i, n, s5, hh, d⟩ by rw [HRI.out, HOK2.out]; rfl)
        have HE := Lib.hid (show rdE x = 0 by rw [HRE.out, HOK2.out]; rfl)
        obtain ⟨y0, y1, y2, y3, y4⟩ := cells5 HY5.out
        go_wp2_with fail
        have HK9 := Lib.hid (set5_blk HZ5.out (.bool i) (.int .u64 n) (.int .u64 s5) (.string hh) (.string d))
        have HB9 := Lib.hid (set5_below HB5.out (Nat.le_succ _) (.bool i) (.int .u64 n) (.int .u64 s5) (.string hh) (.string d))
        clear c0 c1 c2 c3 c4 f0 f1 f2 f3 f4 y0 y1 y2 y3 y4
        generalize hW9 : set5 w5 (w.heap.size + 1) (.bool i) (.int .u64 n) (.int .u64 s5) (.string hh) (.string d) = W9 at HK9 HB9
        unfold set5 at hW9
        rw [hW9]
        obtain ⟨c0, c1, c2, c3, c4⟩ := cells5 HK9.out
        refine bodyPost_ret (v := .tuple #[(rdI x).val, .int .i64 (rdE x)]) (by rw [HR.out, HE.out]; simp [results, Tryd.results76, go_sem, *]) rfl ⟨rfl, HB9.out⟩
theorem read_any (x : Itm) (v : Value) (w : World) (hv : ItemV w 0 w.heap.size x v) (_ : ∀ k (h : k < x.sub.length), (x.sub[k]).bs.length ≤ 4000000000) (_ : Gl w) :
    Calls Tryd.prog 76 #[v] w fun e w' => e = .returned (.tuple #[(rdI x).val, .int .i64 (rdE x)]) ∧ Below w.heap.size w w' := read_all x v w hv
end Go.Proofs.YthknkdphofjmhaaDoor.Eid
