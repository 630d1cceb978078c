/- The contract of ident.Read. -/
import Derived.Test.YthknkdphofjmhaaDoorZg6
import Derived.Test.YthknkdphofjmhaaDoorEidRd
import Derived.Test.YthknkdphofjmhaaDoorCbSame
import Derived.BigRegion
import Derived.Deep.CutBlock
namespace Go.Proofs.YthknkdphofjmhaaDoor.Eid
open Go.RowKit Wd Cb CbSame

theorem sub_at {l : List Itm} {k : Nat} (h : k < l.length) : l.getD k (iN 0) = l[k] := by simp only [List.getD, List.getElem?_eq_getElem h, Option.getD_some]
theorem part_of {w : World} {hi : Nat} {x : Itm} {v : Value} (hv : ItemV w 0 hi x v) {k : Nat} (hk : k < x.sub.length) : ∃ u, ItemV w 0 hi (x.sub[k]) u := by
  obtain ⟨_, _, _, _, _, _, _, _, _, _, _, _, _, h6⟩ := hv.open_
  obtain ⟨b, o, A3, e3, A4, e4, _, _, _, _, _, _, _, p1, p2, p3, p4, p5, p6, p7, p8, p9⟩ := h6.at_ hk
  exact ⟨_, ItemV.of p1 p2 p3 p4 p5 p6 p7 p8 p9⟩
theorem nums_of {w : World} {hi : Nat} {x : Itm} {v : Value} (hv : ItemV w 0 hi x v) : ∀ k (h : k < x.sub.length), 0 ≤ (x.sub[k]).num ∧ (x.sub[k]).num ≤ 18446744073709551615 := by
  intro k hk
  obtain ⟨_, hu⟩ := part_of hv hk
  obtain ⟨_, _, _, _, _, _, q, _⟩ := hu.open_
  exact q
theorem rdI_ok {w : World} {hi : Nat} {x : Itm} {v : Value} (hv : ItemV w 0 hi x v) : (rdI x).ok := by
  unfold rdI
  split
  · rename_i h
    unfold rdOk at h
    simp only [Bool.and_eq_true, decide_eq_true_eq] at h
    rw [sub_at (show 1 < x.sub.length by omega)]
    obtain ⟨u, hu⟩ := part_of hv (show 1 < x.sub.length by omega)
    obtain ⟨_, _, _, _, _, _, _, _, q1, q2, _⟩ := hu.open_
    exact gI_ok _ (nums_of hu) (Nat.le_trans q1 q2)
  · exact zero_ok
theorem ig_ok {w : World} {hi : Nat} {x : Itm} {v : Value} (hv : ItemV w 0 hi x v) (h1 : x.sub.length = 2) (h2 : (x.sub.getD 1 (iN 0)).sub.length = 2) : (ig x).ok := by
  obtain ⟨u0, hu0⟩ := part_of hv (show 0 < x.sub.length by omega)
  obtain ⟨u1, hu1⟩ := part_of hv (show 1 < x.sub.length by omega)
  rw [sub_at (show 1 < x.sub.length by omega)] at h2
  unfold ig
  rw [sub_at (show 1 < x.sub.length by omega), sub_at (show 0 < x.sub.length by omega), sub_at (show 0 < (x.sub[1]'(by omega)).sub.length by omega), sub_at (show 1 < (x.sub[1]'(by omega)).sub.length by omega)]
  have q0 := nums_of hu1 0 (by omega)
  have q1 := nums_of hu1 1 (by omega)
  exact ⟨rdI_ok hu0, q0.1, q0.2, q1.1, q1.2⟩
theorem iitem_small (x : Id) (hx : x.ok) (hr : iright x = true) : size (iitem x) ≤ 9 ∧ deep (iitem x) ≤ 4 := by
  have hr' : right x.src = true := by unfold iright at hr; simp at hr; exact hr.1
  have h := itemOf_small x.src hx.s hr'
  unfold iitem
  simp [size, sizes, deep, deeps]
  omega
theorem irE_eq (z : Itm) : irE z = if irOk z then 0 else 3 := rfl
theorem irI_eq (z : Itm) : irI z = if irOk z then ig z else zeroId := rfl

set_option maxRecDepth 100000 in
set_option maxHeartbeats 8000000 in
theorem iread_any (x : Itm) (v : Value) (w : World) (hv : ItemV w 0 w.heap.size x v) :
    Calls Tryd.prog 80 #[v] w fun e w' => e = .returned (.tuple #[(irI x).val, .int .i64 (irE x)]) ∧ Below w.heap.size w w' := by
  obtain ⟨A, c, A', c', rfl, hk, hn, hb, h1, h2, h3, h4, h5, h6⟩ := hv.open_
  have HIG := Lib.hid (fun e1 e2 => ig_ok hv e1 e2)
  have HB := Lib.hid (((Below.refl w.heap.size w).alloc (Nat.le_refl _) (.cells #[.int .i64 x.kind, .int .u64 x.num, .slice A x.bs.length c, .slice A' x.sub.length c'] 26)).alloc (by simp) (.cells zero7 68))
  have HK := Lib.hid ((Blk.new w 26 #[.int .i64 x.kind, .int .u64 x.num, .slice A x.bs.length c, .slice A' x.sub.length c']).alloc (.cells zero7 68))
  have HZ := Lib.hid (Blk.new (w.alloc (.cells #[.int .i64 x.kind, .int .u64 x.num, .slice A x.bs.length c, .slice A' x.sub.length c'] 26)) 68 zero7)
  rw [World.size_alloc] at HZ
  have HX := Lib.hid (hv.below HB.out)
  have HI := Lib.hid (h6.below HB.out)
  clear hv h3 h6 hk hn hb
  unfold maxLen at h5 h2
  have HBAD : Hid (irOk x = false → (irI x).val = zeroId.val ∧ irE x = 3) := Lib.hid (fun h => by rw [irI_eq, irE_eq, h]; exact ⟨rfl, rfl⟩)
  have HGOOD : Hid (irOk x = true → (irI x).val = (ig x).val ∧ irE x = 0) := Lib.hid (fun h => by rw [irI_eq, irE_eq, h]; exact ⟨rfl, rfl⟩)
  go_enter Tryd.func80, Tryd.ntmps80
  go_upto_region 1 with (fail)
  generalize (w.alloc (.cells #[.int .i64 x.kind, .int .u64 x.num, .slice A x.bs.length c, .slice A' x.sub.length c'] 26)).alloc (.cells #[.bool false, .int .u64 0, .int .u64 0, .string ⟨#[]⟩, .string ⟨#[]⟩, .int .u64 0, .int .u64 0] 68) = W at *
  obtain ⟨k0, k1, k2, k3⟩ := cell4 HK.out
  by_cases h : x.sub.length = 2
  rotate_left
  · have t0 : ((x.sub.length : Int) != 2) = true := by simp only [bne_iff_ne, ne_eq]; omega
    obtain ⟨hR, hE⟩ := HBAD.out (by unfold irOk; rw [decide_eq_false h]; rfl)
    have HR := Lib.hid hR
    have HE := Lib.hid hE
    clear hR hE
    obtain ⟨z0, z1, z2, z3, z4, z5, z6⟩ := cells7 HZ.out
    obtain ⟨f0, f1, f2, f3, f4, f5, f6⟩ := froz7 HZ.out
    go_wp2_with fail
    have HK9 := Lib.hid (set7_blk HZ.out (.bool false) (.int .u64 0) (.int .u64 0) (.string ⟨#[]⟩) (.string ⟨#[]⟩) (.int .u64 0) (.int .u64 0))
    have HB9 := Lib.hid (set7_below HB.out (Nat.le_succ _) (.bool false) (.int .u64 0) (.int .u64 0) (.string ⟨#[]⟩) (.string ⟨#[]⟩) (.int .u64 0) (.int .u64 0))
    clear z0 z1 z2 z3 z4 z5 z6 f0 f1 f2 f3 f4 f5 f6 k0 k1 k2 k3
    generalize hW9 : set7 W (w.heap.size + 1) (.bool false) (.int .u64 0) (.int .u64 0) (.string ⟨#[]⟩) (.string ⟨#[]⟩) (.int .u64 0) (.int .u64 0) = W9 at HK9 HB9
    unfold set7 at hW9
    rw [hW9]
    obtain ⟨z0, z1, z2, z3, z4, z5, z6⟩ := cells7 HK9.out
    refine bodyPost_ret (v := .tuple #[(irI x).val, .int .i64 (irE x)]) (by rw [HR.out, HE.out]; simp [results, Tryd.results80, go_sem, *]) rfl ⟨rfl, HB9.out⟩
  · obtain ⟨b, o, A3, e3, A4, e4, rfl, -, hblt, g0, g1, g2, g3, p1, p2, p3, p4, p5, p6, p7, p8, p9⟩ := HI.out.at_ (k := 1) (by omega)
    obtain ⟨b', o', B3, d3, B4, d4, ea, -, -, g0', g1', g2', g3', p1', p2', p3', p4', p5', p6', p7', p8', p9'⟩ := HI.out.at_ (k := 0) (by omega)
    simp only [Option.some.injEq, Addr.mk.injEq, and_true] at ea
    obtain ⟨rfl, rfl⟩ := ea
    have hs0 : x.sub.getD 0 (iN 0) = x.sub[0]'(by omega) := sub_at (by omega)
    have hs1 : x.sub.getD 1 (iN 0) = x.sub[1]'(by omega) := sub_at (by omega)
    have HOK : Hid (irOk x = (decide ((x.sub[1]'(by omega)).sub.length = 2) && iright (ig x) && same (iitem (ig x)) x)) := Lib.hid (by unfold irOk; rw [decide_eq_true h, hs1, Bool.true_and])
    have HGI : Hid ((ig x) = ⟨rdI (x.sub[0]'(by omega)), ((x.sub[1]'(by omega)).sub.getD 0 (iN 0)).num, ((x.sub[1]'(by omega)).sub.getD 1 (iN 0)).num⟩) := Lib.hid (by unfold ig; rw [hs0, hs1])
    have HIG' := Lib.hid (fun e2 => HIG.out h (by rw [hs1]; exact e2))
    have HY0 := Lib.hid (ItemV.of p1' p2' p3' p4' p5' p6' p7' p8' p9')
    have HP9 := Lib.hid p9
    clear HIG hs0 hs1 p1 p2 p3 p4 p5 p6 p7 p8 p9 p1' p2' p3' p4' p5' p6' p7' p8' p9' HI
    generalize x.sub[1]'(by omega) = y at *
    generalize x.sub[0]'(by omega) = z at *
    simp only [Nat.zero_mul, Nat.add_zero, Nat.one_mul] at g0 g1 g2 g3 g0' g1' g2' g3'
    generalize hL : x.sub.length = L at *
    subst h
    by_cases h' : y.sub.length = 2
    rotate_left
    · have t0 : ((y.sub.length : Int) != 2) = true := by simp only [bne_iff_ne, ne_eq]; omega
      obtain ⟨hR, hE⟩ := HBAD.out (by rw [HOK.out, decide_eq_false h']; rfl)
      have HR := Lib.hid hR
      have HE := Lib.hid hE
      clear hR hE HOK HGI HIG' HY0 HP9 h' g0 g1 g2 g0' g1' g2' g3' HBAD HGOOD HX
      obtain ⟨z0, z1, z2, z3, z4, z5, z6⟩ := cells7 HZ.out
      obtain ⟨f0, f1, f2, f3, f4, f5, f6⟩ := froz7 HZ.out
      go_wp2_with fail
      have HK9 := Lib.hid (set7_blk HZ.out (.bool false) (.int .u64 0) (.int .u64 0) (.string ⟨#[]⟩) (.string ⟨#[]⟩) (.int .u64 0) (.int .u64 0))
      have HB9 := Lib.hid (set7_below HB.out (Nat.le_succ _) (.bool false) (.int .u64 0) (.int .u64 0) (.string ⟨#[]⟩) (.string ⟨#[]⟩) (.int .u64 0) (.int .u64 0))
      clear z0 z1 z2 z3 z4 z5 z6 f0 f1 f2 f3 f4 f5 f6 k0 k1 k2 k3 g3
      generalize hW9 : set7 W (w.heap.size + 1) (.bool false) (.int .u64 0) (.int .u64 0) (.string ⟨#[]⟩) (.string ⟨#[]⟩) (.int .u64 0) (.int .u64 0) = W9 at HK9 HB9
      unfold set7 at hW9
      rw [hW9]
      obtain ⟨z0, z1, z2, z3, z4, z5, z6⟩ := cells7 HK9.out
      refine bodyPost_ret (v := .tuple #[(irI x).val, .int .i64 (irE x)]) (by rw [HR.out, HE.out]; simp [results, Tryd.results80, go_sem, *]) rfl ⟨rfl, HB9.out⟩
    · have HO := Lib.hid (HIG'.out h')
      obtain ⟨yb, yo, C3, _, C4, _, hyA, -, hyb, -, q1, -⟩ := HP9.out.at_ (k := 0) (by omega)
      obtain ⟨yb', yo', D3, _, D4, _, hyA', -, -, -, q1', -⟩ := HP9.out.at_ (k := 1) (by omega)
      subst hyA
      simp only [Option.some.injEq, Addr.mk.injEq, and_true] at hyA'
      obtain ⟨rfl, rfl⟩ := hyA'
      have hs0 : y.sub.getD 0 (iN 0) = y.sub[0]'(by omega) := sub_at (by omega)
      have hs1 : y.sub.getD 1 (iN 0) = y.sub[1]'(by omega) := sub_at (by omega)
      rw [hs0, hs1] at HGI
      clear hs0 hs1 HIG'
      rw [decide_eq_true h', Bool.true_and] at HOK
      generalize (y.sub[0]'(by omega)).num = nt at *
      generalize (y.sub[1]'(by omega)).num = nq at *
      simp only [Nat.zero_mul, Nat.add_zero, Nat.one_mul] at q1 q1'
      have CRd := Lib.hid (fun w' hvi => read_all z (.agg #[.int .i64 z.kind, .int .u64 z.num, .slice B3 z.bs.length d3, .slice B4 z.sub.length d4]) w' hvi)
      generalize hLy : y.sub.length = Ly at *
      subst h'
      clear HP9
      go_wp2_with fail
      refine (CRd.out W (HY0.out.more (Nat.le_refl _) HB.out.size)).mono ?_
      rintro e w1 ⟨rfl, hb1⟩
      have HSZ := Lib.hid HB.out.size
      have UP : ∀ W', Below W.heap.size W W' → W'.cell? ⟨w.heap.size, 3, none⟩ = some (.slice (some ⟨b, o, none⟩) 2 c') ∧ W'.cell? ⟨b, o + 4 + 3, none⟩ = some (.slice (some ⟨yb, yo, none⟩) 2 e4) ∧ W'.cell? ⟨yb, yo + 1, none⟩ = some (.int .u64 nt) ∧ W'.cell? ⟨yb, yo + 4 + 1, none⟩ = some (.int .u64 nq) := fun W' hW =>
        ⟨(hW.cell (p := ⟨w.heap.size, 3, none⟩) HK.out.lt).trans k3, (hW.cell (p := ⟨b, o + 4 + 3, none⟩) (by have := HSZ.out; show b < _; omega)).trans g3, (hW.cell (p := ⟨yb, yo + 1, none⟩) (by have := HSZ.out; show yb < _; omega)).trans q1, (hW.cell (p := ⟨yb, yo + 4 + 1, none⟩) (by have := HSZ.out; show yb < _; omega)).trans q1'⟩
      have HUP := Lib.hid UP
      clear UP k0 k1 k2 k3 g0 g1 g2 g3 g0' g1' g2' g3' q1 q1' CRd HY0
      have HRZ := Lib.hid (show rdI z = rdI z from rfl)
      generalize rdI z = r at *
      clear HRZ
      generalize rdE z = er at *
      have HGE := Lib.hid (show (irI x).val = (irI x).val from rfl)
      clear HGE
      obtain ⟨i, n, s, hh, d⟩ := r
      have HV2 := Lib.hid (Blk.new w1 48 #[.bool i, .int .u64 n, .int .u64 s, .string hh, .string d])
      have HW2 := Lib.hid (hb1.alloc hb1.size (.cells #[.bool i, .int .u64 n, .int .u64 s, .string hh, .string d] 48))
      clear hb1
      go_upto_region 4 with (fail)
      generalize w1.alloc (.cells #[.bool i, .int .u64 n, .int .u64 s, .string hh, .string d] 48) = W2 at *
      go_cut [6] from 9 (fun p6 wx => p6 = .pointer (some ⟨W2.heap.size, 0, none⟩) ∧ Hid (Blk wx W2.heap.size 68 #[.bool i, .int .u64 n, .int .u64 s, .string hh, .string d, .int .u64 nt, .int .u64 nq]) ∧ Hid (Below W.heap.size W wx))
      case first =>
        obtain ⟨k3, g3, q1, q1'⟩ := HUP.out _ HW2.out
        obtain ⟨v0, v1, v2, v3, v4⟩ := cells5 HV2.out
        have HB0 := Lib.hid (Below.refl W2.heap.size W2)
        have HBd := Lib.hid (Below.refl W2.heap.size W2).drew
        have HP := Lib.hid (fun (W' : World) (hW : Below W2.heap.size W2 W') => And.intro (HUP.out W' (below_next HW2.out HW2.out.size hW)) (cells5 (HV2.out.next hW)))
        clear HBAD HGOOD HOK HX HO HGI HK HZ HB HUP
        go_region_held3 (fun w' => (w'.cell? ⟨w.heap.size, 3, none⟩ = some (.slice (some ⟨b, o, none⟩) 2 c') ∧ w'.cell? ⟨b, o + 4 + 3, none⟩ = some (.slice (some ⟨yb, yo, none⟩) 2 e4) ∧ w'.cell? ⟨yb, yo + 1, none⟩ = some (.int .u64 nt) ∧ w'.cell? ⟨yb, yo + 4 + 1, none⟩ = some (.int .u64 nq)) ∧ (w'.cell? ⟨w1.heap.size, 0, none⟩ = some (.bool i) ∧ w'.cell? ⟨w1.heap.size, 1, none⟩ = some (.int .u64 n) ∧ w'.cell? ⟨w1.heap.size, 2, none⟩ = some (.int .u64 s) ∧ w'.cell? ⟨w1.heap.size, 3, none⟩ = some (.string hh) ∧ w'.cell? ⟨w1.heap.size, 4, none⟩ = some (.string d)))
          (first | with_reducible exact HP.out _ HBd.out | with_reducible exact HP.out _ (HB0.out.alloc HB0.out.size _).drew | with_reducible exact HP.out _ (HBd.out.alloc HBd.out.size _) | with_reducible exact HP.out _ (set7_below (HB0.out.alloc HB0.out.size _).drew (Nat.le_refl _) _ _ _ _ _ _ _) | with_reducible exact HP.out _ (set7_below (HBd.out.alloc HBd.out.size _) (Nat.le_refl _) _ _ _ _ _ _ _) | fail)
          (fail)
        have HV3 := Lib.hid (Blk.new W2 68 #[.bool i, .int .u64 n, .int .u64 s, .string hh, .string d, .int .u64 nt, .int .u64 nq]).drew
        have HW3 := Lib.hid (HW2.out.alloc HW2.out.size (.cells #[.bool i, .int .u64 n, .int .u64 s, .string hh, .string d, .int .u64 nt, .int .u64 nq] 68)).drew
        clear k3 g3 q1 q1' v0 v1 v2 v3 v4 HB0 HBd HP
        generalize (W2.alloc (.cells #[.bool i, .int .u64 n, .int .u64 s, .string hh, .string d, .int .u64 nt, .int .u64 nq] 68)).drew = W3 at *
        go_wp2_with fail
        go_meet
        exact ⟨rfl, HV3, HW3⟩
      case rest =>
      obtain ⟨rfl, HV3, HW3⟩ := hcut
      clear HV2 HW2 HUP hblt hyb
      have CW := Lib.hid (fun w' => iwrite_any (ig x) HO.out w')
      have HIS := Lib.hid (fun hr => iitem_small (ig x) HO.out hr)
      rw [HGI.out] at CW HOK HGOOD HIS
      clear HGI HO
      generalize iitem ⟨⟨i, n, s, hh, d⟩, nt, nq⟩ = T at *
      generalize iright ⟨⟨i, n, s, hh, d⟩, nt, nq⟩ = ir at *
      obtain ⟨v0, v1, v2, v3, v4, v5, v6⟩ := cells7 HV3.out
      go_wp2_with fail
      refine (CW.out _).mono ?_
      rintro e w4 ⟨vb, rfl, HIB, hb4⟩
      obtain ⟨kb, nb, Ab, lb, cb, Ab', lb', cb', hvb⟩ : ∃ kb nb Ab lb cb Ab' lb' cb', vb = .agg #[.int .i64 kb, .int .u64 nb, .slice Ab lb cb, .slice Ab' lb' cb'] := by
        obtain ⟨_, _, _, _, e, _⟩ := HIB.out.open_
        exact ⟨_, _, _, _, _, _, _, _, e⟩
      subst hvb
      have HW4 := Lib.hid (below_next HW3.out HW3.out.size hb4)
      have HV4 := Lib.hid (HV3.out.next hb4)
      have HI4 := Lib.hid ((HIB.out.alloc (Nat.le_refl _) (.cells #[.int .i64 kb, .int .u64 nb, .slice Ab lb cb, .slice Ab' lb' cb'] 26)).more (Nat.le_refl _) (show w4.heap.size ≤ (w4.alloc (.cells #[.int .i64 kb, .int .u64 nb, .slice Ab lb cb, .slice Ab' lb' cb'] 26)).heap.size by simp))
      have HU4 := Lib.hid (Blk.new w4 26 #[.int .i64 kb, .int .u64 nb, .slice Ab lb cb, .slice Ab' lb' cb'])
      have HW5 := Lib.hid (HW4.out.alloc HW4.out.size (.cells #[.int .i64 kb, .int .u64 nb, .slice Ab lb cb, .slice Ab' lb' cb'] 26))
      have HV5 := Lib.hid (HV4.out.alloc (.cells #[.int .i64 kb, .int .u64 nb, .slice Ab lb cb, .slice Ab' lb' cb'] 26))
      clear hb4 HIB HV3 HW3 HV4 HW4 CW v0 v1 v2 v3 v4 v5 v6
      go_upto_region 6 with (fail)
      generalize w4.alloc (.cells #[.int .i64 kb, .int .u64 nb, .slice Ab lb cb, .slice Ab' lb' cb'] 26) = W5 at *
      have HB5 := Lib.hid (below_next HB.out HB.out.size HW5.out)
      have HZ5 := Lib.hid (HZ.out.next HW5.out)
      have HK5 := Lib.hid (HK.out.next HW5.out)
      have HX5 := Lib.hid ((HX.out.more (Nat.le_refl _) HB.out.size).below HW5.out)
      clear HB HZ HK HX
      cases ir
      · obtain ⟨hR, hE⟩ := HBAD.out (by rw [HOK.out]; rfl)
        have HR := Lib.hid hR
        have HE := Lib.hid hE
        clear hR hE
        clear HBAD HGOOD HOK HI4 HU4 HV5 HK5 HX5 HIS
        try simp only [Bool.false_eq_true, if_false]
        obtain ⟨z0, z1, z2, z3, z4, z5, z6⟩ := cells7 HZ5.out
        obtain ⟨f0, f1, f2, f3, f4, f5, f6⟩ := froz7 HZ5.out
        go_wp2_with fail
        have HK9 := Lib.hid (set7_blk HZ5.out (.bool false) (.int .u64 0) (.int .u64 0) (.string ⟨#[]⟩) (.string ⟨#[]⟩) (.int .u64 0) (.int .u64 0))
        have HB9 := Lib.hid (set7_below HB5.out (Nat.le_succ _) (.bool false) (.int .u64 0) (.int .u64 0) (.string ⟨#[]⟩) (.string ⟨#[]⟩) (.int .u64 0) (.int .u64 0))
        clear z0 z1 z2 z3 z4 z5 z6 f0 f1 f2 f3 f4 f5 f6
        generalize hW9 : set7 W5 (w.heap.size + 1) (.bool false) (.int .u64 0) (.int .u64 0) (.string ⟨#[]⟩) (.string ⟨#[]⟩) (.int .u64 0) (.int .u64 0) = W9 at HK9 HB9
        unfold set7 at hW9
        rw [hW9]
        obtain ⟨z0, z1, z2, z3, z4, z5, z6⟩ := cells7 HK9.out
        refine bodyPost_ret (v := .tuple #[(irI x).val, .int .i64 (irE x)]) (by rw [HR.out, HE.out]; simp [results, Tryd.results80, go_sem, *]) rfl ⟨rfl, HB9.out⟩
      · simp only [if_true] at HI4
        try simp only [if_true]
        have his := HIS.out (by first | rfl | trivial)
        have CS := Lib.hid (sameTop_any T x _ _ W5.heap.size W5 HI4.out (HX5.out.more (Nat.le_refl _) HW5.out.size) (Nat.le_refl _) (by omega) (by omega))
        obtain ⟨u0, u1, u2, u3⟩ := cell4 HU4.out
        obtain ⟨k0, k1, k2, k3⟩ := cell4 HK5.out
        clear his HIS
        go_wp2_with fail
        refine CS.out.mono ?_
        rintro e w6 ⟨rfl, hb6⟩
        have HB6 := Lib.hid (below_next HB5.out HB5.out.size hb6)
        have HZ6 := Lib.hid (HZ5.out.next hb6)
        have HV6 := Lib.hid (HV5.out.next hb6)
        clear hb6 u0 u1 u2 u3 k0 k1 k2 k3 CS HI4 HX5 HU4 HK5 HB5 HZ5 HV5 HW5
        rw [Bool.true_and] at HOK
        generalize same T x = sm at *
        cases sm
        · obtain ⟨hR, hE⟩ := HBAD.out (by rw [HOK.out])
          have HR := Lib.hid hR
          have HE := Lib.hid hE
          clear hR hE
          clear HBAD HGOOD HOK
          obtain ⟨z0, z1, z2, z3, z4, z5, z6⟩ := cells7 HZ6.out
          obtain ⟨f0, f1, f2, f3, f4, f5, f6⟩ := froz7 HZ6.out
          go_wp2_with fail
          have HK9 := Lib.hid (set7_blk HZ6.out (.bool false) (.int .u64 0) (.int .u64 0) (.string ⟨#[]⟩) (.string ⟨#[]⟩) (.int .u64 0) (.int .u64 0))
          have HB9 := Lib.hid (set7_below HB6.out (Nat.le_succ _) (.bool false) (.int .u64 0) (.int .u64 0) (.string ⟨#[]⟩) (.string ⟨#[]⟩) (.int .u64 0) (.int .u64 0))
          clear z0 z1 z2 z3 z4 z5 z6 f0 f1 f2 f3 f4 f5 f6
          generalize hW9 : set7 w6 (w.heap.size + 1) (.bool false) (.int .u64 0) (.int .u64 0) (.string ⟨#[]⟩) (.string ⟨#[]⟩) (.int .u64 0) (.int .u64 0) = W9 at HK9 HB9
          unfold set7 at hW9
          rw [hW9]
          obtain ⟨z0, z1, z2, z3, z4, z5, z6⟩ := cells7 HK9.out
          refine bodyPost_ret (v := .tuple #[(irI x).val, .int .i64 (irE x)]) (by rw [HR.out, HE.out]; simp [results, Tryd.results80, go_sem, *]) rfl ⟨rfl, HB9.out⟩
        · obtain ⟨hR, hE⟩ := HGOOD.out (by rw [HOK.out])
          have HR := Lib.hid hR
          have HE := Lib.hid hE
          clear hR hE
          clear HBAD HGOOD HOK
          obtain ⟨v0, v1, v2, v3, v4, v5, v6⟩ := cells7 HV6.out
          obtain ⟨z0, z1, z2, z3, z4, z5, z6⟩ := cells7 HZ6.out
          obtain ⟨f0, f1, f2, f3, f4, f5, f6⟩ := froz7 HZ6.out
          go_wp2_with fail
          have HK9 := Lib.hid (set7_blk HZ6.out (.bool i) (.int .u64 n) (.int .u64 s) (.string hh) (.string d) (.int .u64 nt) (.int .u64 nq))
          have HB9 := Lib.hid (set7_below HB6.out (Nat.le_succ _) (.bool i) (.int .u64 n) (.int .u64 s) (.string hh) (.string d) (.int .u64 nt) (.int .u64 nq))
          clear v0 v1 v2 v3 v4 v5 v6 z0 z1 z2 z3 z4 z5 z6 f0 f1 f2 f3 f4 f5 f6
          generalize hW9 : set7 w6 (w.heap.size + 1) (.bool i) (.int .u64 n) (.int .u64 s) (.string hh) (.string d) (.int .u64 nt) (.int .u64 nq) = W9 at HK9 HB9
          unfold set7 at hW9
          rw [hW9]
          obtain ⟨z0, z1, z2, z3, z4, z5, z6⟩ := cells7 HK9.out
          refine bodyPost_ret (v := .tuple #[(irI x).val, .int .i64 (irE x)]) (by rw [HR.out, HE.out]; simp [results, Tryd.results80, go_sem, *]) rfl ⟨rfl, HB9.out⟩
end Go.Proofs.YthknkdphofjmhaaDoor.Eid
