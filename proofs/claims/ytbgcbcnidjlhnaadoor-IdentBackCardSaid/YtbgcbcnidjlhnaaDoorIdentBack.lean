/- The statement IdentBack: its walk. -/
import Derived.Test.YtbgcbcnidjlhnaaDoorAlive05
import Derived.Test.YtbgcbcnidjlhnaaDoorIdEq
import Derived.Test.YtbgcbcnidjlhnaaDoorIdRd
import Derived.Test.YtbgcbcnidjlhnaaDoorCbSame
namespace Go.Proofs.YtbgcbcnidjlhnaaDoor.Eid
open Go.RowKit Wd Cb CbSame
theorem irI_ok {w : World} {hi : Nat} {x : Itm} {v : Value} (hv : ItemV w 0 hi x v) : (irI x).ok := by
  rw [irI_eq]
  cases h : irOk x
  · exact zeroId_ok
  · rw [if_pos rfl]
    unfold irOk at h
    simp only [Bool.and_eq_true, decide_eq_true_eq] at h
    exact ig_ok hv h.1.1.1 h.1.1.2
end Go.Proofs.YtbgcbcnidjlhnaaDoor.Eid
namespace Go.Proofs.YtbgcbcnidjlhnaaDoor.IdentBack
open Go.RowKit Wd Eid Cb CbSame
attribute [local go_sem ↓ high] Eid.run_id

set_option maxRecDepth 100000 in
set_option maxHeartbeats 8000000 in
theorem walk (x : Eid.Id) (z : Itm) (v : Value) (w : World) (hx : x.ok) (hv : ItemV w 0 w.heap.size z v) (G : Gl w) : Calls Tryd.prog 5 #[x.val, v] w fun e w' => e = .returned (.bool true) ∧ Below w.heap.size w w' := by
  have CA := Lib.hid (fun w' g => alive05_any w' g)
  have CGx := Lib.hid (fun w' => great05_any x w')
  have CW := Lib.hid (fun w' => iwrite_any x hx w')
  have CRI : Hid (iright x = true → ∀ u w', ItemV w' 0 w'.heap.size (iitem x) u → Calls Tryd.prog 18 #[u] w' fun e w1 => e = .returned (.tuple #[x.val, .int .i64 0]) ∧ Below w'.heap.size w' w1) := Lib.hid (fun h u w' hu => by
    have c := iread_any (iitem x) u w' hu
    have e1 := ir_item x h
    rw [irE_eq, e1.1, e1.2, if_pos rfl] at c
    exact c)
  have CRZ := Lib.hid (fun u w' hu => iread_any z u w' hu)
  have CWY := Lib.hid (fun w' => iwrite_any (irI z) (irI_ok hv) w')
  obtain ⟨ej, hej⟩ : ∃ k : Int, k = (if iright (irI z) then 0 else 3) := ⟨_, rfl⟩
  rw [← hej] at CWY
  have HEJ := Lib.hid hej
  clear hej
  have HY := Lib.hid (irI_ok hv)
  have HIR : Hid ((irE z = 3) ∨ (irE z = 0 ∧ iright (irI z) = true ∧ iitem (irI z) = z)) := Lib.hid (by
    cases h : irOk z
    · left; rw [irE_eq, h]; rfl
    · right; rw [irE_eq, h]; exact ⟨rfl, ir_back z h⟩)
  have HSM := Lib.hid (fun hr => iitem_small (irI z) (irI_ok hv) hr)
  obtain ⟨A, c, A', c', rfl, -⟩ := hv.open_
  have HEQ := Lib.hid (idEq_self x)
  have HG := Lib.hid G
  have HB := Lib.hid (((Below.refl w.heap.size w).alloc (Nat.le_refl _) (.cells x.cells 26)).alloc (by simp) (.cells #[.int .i64 z.kind, .int .u64 z.num, .slice A z.bs.length c, .slice A' z.sub.length c'] 30))
  have HK := Lib.hid ((Blk.new w 26 x.cells).alloc (.cells #[.int .i64 z.kind, .int .u64 z.num, .slice A z.bs.length c, .slice A' z.sub.length c'] 30))
  have HZ := Lib.hid (Blk.new (w.alloc (.cells x.cells 26)) 30 #[.int .i64 z.kind, .int .u64 z.num, .slice A z.bs.length c, .slice A' z.sub.length c'])
  rw [World.size_alloc] at HZ
  have HZV := Lib.hid ((hv.below HB.out).more (Nat.le_refl _) HB.out.size)
  clear hx hv G
  generalize hgx : decide (300 < wrap64 ((x.src.host.size : Int) + x.src.demux.size)) = gx at *
  clear hgx
  generalize iright x = r at *
  generalize iitem x = T at *
  generalize irE z = er at *
  generalize iright (irI z) = ry at *
  generalize iitem (irI z) = TY at *
  generalize irI z = y at *
  obtain ⟨⟨xi, xn, xs, xh, xd⟩, xt, xq⟩ := x
  obtain ⟨⟨yi, yn, ys, yh, yd⟩, yt, yq⟩ := y
  go_enter Tryd.func5, Tryd.ntmps5
  go_upto_region 1 with (fail)
  generalize (w.alloc (.cells #[.bool xi, .int .u64 xn, .int .u64 xs, .string xh, .string xd, .int .u64 xt, .int .u64 xq] 26)).alloc (.cells #[.int .i64 z.kind, .int .u64 z.num, .slice A z.bs.length c, .slice A' z.sub.length c'] 30) = W at *
  have KX := Lib.hid (fun (W' : World) (hW : Below W.heap.size W W') => cells7 (HK.out.next hW))
  have KZ := Lib.hid (fun (W' : World) (hW : Below W.heap.size W W') => cell4 (HZ.out.next hW))
  have KV := Lib.hid (fun (W' : World) (hW : Below W.heap.size W W') => (HZV.out.below hW).more (Nat.le_refl _) hW.size)
  have HBE : Hid (∀ W', Below W.heap.size W W' → Below w.heap.size w W') := Lib.hid (fun W' h => below_next HB.out HB.out.size h)
  have HGW := Lib.hid (HG.out.below HB.out)
  have hAl : Hid (∀ W', Below W.heap.size W W' → Calls Tryd.prog 14 #[] W' fun e w1 => e = .returned (.bool true) ∧ Below W.heap.size W w1 ∧ Below W'.heap.size W' w1) := Lib.hid (fun W' hW => by
    refine (CA.out W' (HGW.out.below hW)).mono ?_
    rintro e w1 ⟨rfl, hb⟩
    exact ⟨rfl, below_next hW hW.size hb, hb⟩)
  clear HG HGW CA HB HK HZ HZV
  obtain ⟨x0, x1, x2, x3, x4, x5, x6⟩ := KX.out W (Below.refl _ _)
  go_wp2_with fail
  refine (CGx.out W).mono ?_
  rintro e w1 ⟨rfl, hb1⟩
  have HB1 := Lib.hid hb1
  clear hb1 x0 x1 x2 x3 x4 x5 x6 CGx
  cases gx
  rotate_left
  · go_wp2_with fail
    refine (hAl.out _ HB1.out).mono ?_
    rintro e w2 ⟨rfl, hb, -⟩
    have HB2 := Lib.hid hb
    clear hb
    go_wp2_with fail
    go_ret
    exact ⟨rfl, HBE.out _ HB2.out⟩
  obtain ⟨x0, x1, x2, x3, x4, x5, x6⟩ := KX.out w1 HB1.out
  go_wp2_with fail
  refine (CW.out w1).mono ?_
  rintro e w2 ⟨vb, rfl, HIB, hb2⟩
  obtain ⟨kb, nb, Ab, lb, cb, Ab', lb', cb', hvb⟩ : ∃ kb nb Ab lb cb Ab' lb' cb', vb = .agg #[.int .i64 kb, .int .u64 nb, .slice Ab lb cb, .slice Ab' lb' cb'] := by
    obtain ⟨_, _, _, _, e, _⟩ := HIB.out.open_
    exact ⟨_, _, _, _, _, _, _, _, e⟩
  subst hvb
  have HB2 := Lib.hid (below_next HB1.out HB1.out.size hb2)
  have HI3 := Lib.hid ((HIB.out.alloc (Nat.le_refl _) (.cells #[.int .i64 kb, .int .u64 nb, .slice Ab lb cb, .slice Ab' lb' cb'] 30)).more (Nat.le_refl _) (show w2.heap.size ≤ (w2.alloc (.cells #[.int .i64 kb, .int .u64 nb, .slice Ab lb cb, .slice Ab' lb' cb'] 30)).heap.size by simp))
  have HU3 := Lib.hid (Blk.new w2 30 #[.int .i64 kb, .int .u64 nb, .slice Ab lb cb, .slice Ab' lb' cb'])
  have HB3 := Lib.hid (HB2.out.alloc HB2.out.size (.cells #[.int .i64 kb, .int .u64 nb, .slice Ab lb cb, .slice Ab' lb' cb'] 30))
  clear hb2 HIB x0 x1 x2 x3 x4 x5 x6 HB1 HB2 CW
  go_upto_region 4 with (fail)
  generalize w2.alloc (.cells #[.int .i64 kb, .int .u64 nb, .slice Ab lb cb, .slice Ab' lb' cb'] 30) = W3 at *
  cases r
  · simp only [Bool.false_eq_true, if_false]
    generalize W3 = u0 at *
    have HU0 := Lib.hid HB3.out
    clear HI3 HU3 HB3 CRI HEQ
    obtain ⟨z0, z1, z2, z3⟩ := KZ.out u0 HU0.out
    go_wp2_with fail
    refine (CRZ.out _ u0 (KV.out _ HU0.out)).mono ?_
    rintro e u1 ⟨rfl, hu1⟩
    have HU1 := Lib.hid (below_next HU0.out HU0.out.size hu1)
    have HY2 := Lib.hid (Blk.new u1 26 #[.bool yi, .int .u64 yn, .int .u64 ys, .string yh, .string yd, .int .u64 yt, .int .u64 yq])
    have HU2 := Lib.hid (HU1.out.alloc HU1.out.size (.cells #[.bool yi, .int .u64 yn, .int .u64 ys, .string yh, .string yd, .int .u64 yt, .int .u64 yq] 26))
    clear hu1 z0 z1 z2 z3 HU0 HU1
    go_upto_region 9 with (fail)
    generalize u1.alloc (.cells #[.bool yi, .int .u64 yn, .int .u64 ys, .string yh, .string yd, .int .u64 yt, .int .u64 yq] 26) = U2 at *
    obtain ⟨y0, y1, y2, y3, y4, y5, y6⟩ := cells7 HY2.out
    go_wp2_with fail
    refine (CWY.out U2).mono ?_
    rintro e u3 ⟨vj, rfl, HIJ, hu3⟩
    obtain ⟨kj, nj, Aj, lj, cj, Aj', lj', cj', hvj⟩ : ∃ kj nj Aj lj cj Aj' lj' cj', vj = .agg #[.int .i64 kj, .int .u64 nj, .slice Aj lj cj, .slice Aj' lj' cj'] := by
      obtain ⟨_, _, _, _, e, _⟩ := HIJ.out.open_
      exact ⟨_, _, _, _, _, _, _, _, e⟩
    subst hvj
    have HU3' := Lib.hid (below_next HU2.out HU2.out.size hu3)
    have HJ4 := Lib.hid ((HIJ.out.alloc (Nat.le_refl _) (.cells #[.int .i64 kj, .int .u64 nj, .slice Aj lj cj, .slice Aj' lj' cj'] 30)).more (Nat.le_refl _) (show u3.heap.size ≤ (u3.alloc (.cells #[.int .i64 kj, .int .u64 nj, .slice Aj lj cj, .slice Aj' lj' cj'] 30)).heap.size by simp))
    have HN4 := Lib.hid (Blk.new u3 30 #[.int .i64 kj, .int .u64 nj, .slice Aj lj cj, .slice Aj' lj' cj'])
    have HU4 := Lib.hid (HU3'.out.alloc HU3'.out.size (.cells #[.int .i64 kj, .int .u64 nj, .slice Aj lj cj, .slice Aj' lj' cj'] 30))
    clear hu3 HIJ y0 y1 y2 y3 y4 y5 y6 HU2 HU3' HY2
    go_upto_region 10 with (fail)
    generalize u3.alloc (.cells #[.int .i64 kj, .int .u64 nj, .slice Aj lj cj, .slice Aj' lj' cj'] 30) = U4 at *
    go_wp2_with fail
    refine (hAl.out _ HU4.out).mono ?_
    rintro e u5 ⟨rfl, hu5, hu45⟩
    have HU5 := Lib.hid hu5
    have HJ5 := Lib.hid ((HJ4.out.below hu45).more (Nat.le_refl _) hu45.size)
    have HN5 := Lib.hid (HN4.out.next hu45)
    clear hu5 hu45 HJ4 HN4 HU4 hAl
    rcases HIR.out with e3 | ⟨e0, e1, e2⟩
    · subst e3
      clear HIR HSM HJ5 HN5 CRZ CWY
      go_wp2_with fail
      go_ret
      exact ⟨rfl, HBE.out _ HU5.out⟩
    · subst e0 e1 e2
      simp only [if_true] at HJ5
      have hej := HEJ.out
      simp only [if_true] at hej
      subst hej
      have his := HSM.out (by first | rfl | trivial)
      have CS := Lib.hid (sameTop_any TY TY _ _ u5.heap.size u5 HJ5.out (KV.out _ HU5.out) (Nat.le_refl _) (by omega) (by omega))
      have HSS := Lib.hid (same_self TY)
      clear his HSM HIR CRZ CWY
      generalize same TY TY = sm at *
      have hsm := HSS.out
      subst hsm
      obtain ⟨z0, z1, z2, z3⟩ := KZ.out u5 HU5.out
      obtain ⟨n0, n1, n2, n3⟩ := cell4 HN5.out
      clear HSS
      go_wp2_with fail
      refine CS.out.mono ?_
      rintro e u6 ⟨rfl, hu6⟩
      have HU6 := Lib.hid (below_next HU5.out HU5.out.size hu6)
      clear hu6 z0 z1 z2 z3 n0 n1 n2 n3 CS
      go_wp2_with fail
      go_ret
      exact ⟨rfl, HBE.out _ HU6.out⟩
  · simp only [if_true] at HI3
    simp only [if_true]
    have CRI' := Lib.hid (CRI.out (by first | rfl | trivial))
    clear CRI
    obtain ⟨i0, i1, i2, i3⟩ := cell4 HU3.out
    go_wp2_with fail
    refine (CRI'.out _ _ HI3.out).mono ?_
    rintro e w4 ⟨rfl, hb4⟩
    have HB4 := Lib.hid (below_next HB3.out HB3.out.size hb4)
    have HP5 := Lib.hid (Blk.new w4 26 #[.bool xi, .int .u64 xn, .int .u64 xs, .string xh, .string xd, .int .u64 xt, .int .u64 xq])
    have HB5 := Lib.hid (HB4.out.alloc HB4.out.size (.cells #[.bool xi, .int .u64 xn, .int .u64 xs, .string xh, .string xd, .int .u64 xt, .int .u64 xq] 26))
    clear hb4 i0 i1 i2 i3 HI3 HU3 HB3 HB4 CRI'
    go_upto_region 6 with (fail)
    generalize w4.alloc (.cells #[.bool xi, .int .u64 xn, .int .u64 xs, .string xh, .string xd, .int .u64 xt, .int .u64 xq] 26) = u0 at *
    obtain ⟨p0, p1, p2, p3, p4, p5, p6⟩ := cells7 HP5.out
    obtain ⟨x0, x1, x2, x3, x4, x5, x6⟩ := KX.out u0 HB5.out
    have heq := HEQ.out
    go_upto_region 8 with (fail)
    have HU0 := Lib.hid HB5.out
    clear HP5 HB5 p0 p1 p2 p3 p4 p5 p6 x0 x1 x2 x3 x4 x5 x6 heq HEQ
    obtain ⟨z0, z1, z2, z3⟩ := KZ.out u0 HU0.out
    go_wp2_with fail
    refine (CRZ.out _ u0 (KV.out _ HU0.out)).mono ?_
    rintro e u1 ⟨rfl, hu1⟩
    have HU1 := Lib.hid (below_next HU0.out HU0.out.size hu1)
    have HY2 := Lib.hid (Blk.new u1 26 #[.bool yi, .int .u64 yn, .int .u64 ys, .string yh, .string yd, .int .u64 yt, .int .u64 yq])
    have HU2 := Lib.hid (HU1.out.alloc HU1.out.size (.cells #[.bool yi, .int .u64 yn, .int .u64 ys, .string yh, .string yd, .int .u64 yt, .int .u64 yq] 26))
    clear hu1 z0 z1 z2 z3 HU0 HU1
    go_upto_region 9 with (fail)
    generalize u1.alloc (.cells #[.bool yi, .int .u64 yn, .int .u64 ys, .string yh, .string yd, .int .u64 yt, .int .u64 yq] 26) = U2 at *
    obtain ⟨y0, y1, y2, y3, y4, y5, y6⟩ := cells7 HY2.out
    go_wp2_with fail
    refine (CWY.out U2).mono ?_
    rintro e u3 ⟨vj, rfl, HIJ, hu3⟩
    obtain ⟨kj, nj, Aj, lj, cj, Aj', lj', cj', hvj⟩ : ∃ kj nj Aj lj cj Aj' lj' cj', vj = .agg #[.int .i64 kj, .int .u64 nj, .slice Aj lj cj, .slice Aj' lj' cj'] := by
      obtain ⟨_, _, _, _, e, _⟩ := HIJ.out.open_
      exact ⟨_, _, _, _, _, _, _, _, e⟩
    subst hvj
    have HU3' := Lib.hid (below_next HU2.out HU2.out.size hu3)
    have HJ4 := Lib.hid ((HIJ.out.alloc (Nat.le_refl _) (.cells #[.int .i64 kj, .int .u64 nj, .slice Aj lj cj, .slice Aj' lj' cj'] 30)).more (Nat.le_refl _) (show u3.heap.size ≤ (u3.alloc (.cells #[.int .i64 kj, .int .u64 nj, .slice Aj lj cj, .slice Aj' lj' cj'] 30)).heap.size by simp))
    have HN4 := Lib.hid (Blk.new u3 30 #[.int .i64 kj, .int .u64 nj, .slice Aj lj cj, .slice Aj' lj' cj'])
    have HU4 := Lib.hid (HU3'.out.alloc HU3'.out.size (.cells #[.int .i64 kj, .int .u64 nj, .slice Aj lj cj, .slice Aj' lj' cj'] 30))
    clear hu3 HIJ y0 y1 y2 y3 y4 y5 y6 HU2 HU3' HY2
    go_upto_region 10 with (fail)
    generalize u3.alloc (.cells #[.int .i64 kj, .int .u64 nj, .slice Aj lj cj, .slice Aj' lj' cj'] 30) = U4 at *
    go_wp2_with fail
    refine (hAl.out _ HU4.out).mono ?_
    rintro e u5 ⟨rfl, hu5, hu45⟩
    have HU5 := Lib.hid hu5
    have HJ5 := Lib.hid ((HJ4.out.below hu45).more (Nat.le_refl _) hu45.size)
    have HN5 := Lib.hid (HN4.out.next hu45)
    clear hu5 hu45 HJ4 HN4 HU4 hAl
    rcases HIR.out with e3 | ⟨e0, e1, e2⟩
    · subst e3
      clear HIR HSM HJ5 HN5 CRZ CWY
      go_wp2_with fail
      go_ret
      exact ⟨rfl, HBE.out _ HU5.out⟩
    · subst e0 e1 e2
      simp only [if_true] at HJ5
      have hej := HEJ.out
      simp only [if_true] at hej
      subst hej
      have his := HSM.out (by first | rfl | trivial)
      have CS := Lib.hid (sameTop_any TY TY _ _ u5.heap.size u5 HJ5.out (KV.out _ HU5.out) (Nat.le_refl _) (by omega) (by omega))
      have HSS := Lib.hid (same_self TY)
      clear his HSM HIR CRZ CWY
      generalize same TY TY = sm at *
      have hsm := HSS.out
      subst hsm
      obtain ⟨z0, z1, z2, z3⟩ := KZ.out u5 HU5.out
      obtain ⟨n0, n1, n2, n3⟩ := cell4 HN5.out
      clear HSS
      go_wp2_with fail
      refine CS.out.mono ?_
      rintro e u6 ⟨rfl, hu6⟩
      have HU6 := Lib.hid (below_next HU5.out HU5.out.size hu6)
      clear hu6 z0 z1 z2 z3 n0 n1 n2 n3 CS
      go_wp2_with fail
      go_ret
      exact ⟨rfl, HBE.out _ HU6.out⟩
end Go.Proofs.YtbgcbcnidjlhnaaDoor.IdentBack
