/- The statement IdentTells: its walk. -/
import Derived.Test.YtbgcbcnidjlhnaaDoorAlive05
import Derived.Test.YtbgcbcnidjlhnaaDoorIdRrd
import Derived.Test.YtbgcbcnidjlhnaaDoorReadsP
import Derived.Test.YtbgcbcnidjlhnaaDoorGreat
import Derived.Test.YtbgcbcnidjlhnaaDoorAs03
import Derived.Deep.RegionHeld3
namespace Go.Proofs.YtbgcbcnidjlhnaaDoor.Eid
open Go.RowKit Wd Cb Great
attribute [local go_sem ↓ high] Eid.run_nm4
set_option maxHeartbeats 2000000 in
theorem run_id5 (w : World) (d : Nat) (i1 i2 : Bool) (n1 s1 n2 s2 t1 q1 t2 q2 : Int) (h1 d1 h2 d2 : ByteArray) :
    (Op.equalIn (d + 3) 36 (.agg #[.bool i1, .int .u64 n1, .int .u64 s1, .string h1, .string d1, .int .u64 t1, .int .u64 q1]) (.agg #[.bool i2, .int .u64 n2, .int .u64 s2, .string h2, .string d2, .int .u64 t2, .int .u64 q2])).run Tryd.prog w = .ok (idEq ⟨⟨i1, n1, s1, h1, d1⟩, t1, q1⟩ ⟨⟨i2, n2, s2, h2, d2⟩, t2, q2⟩) w := by
  rw [run_equalIn_struct w (d + 2) 36 _ _ (by kernel_rfl) (by kernel_rfl)]
  simp only [Program.fieldsOf, Tryd.underlying36]
  unfold idEq
  cases e0 : nmEq ⟨i1, n1, s1, h1, d1⟩ ⟨i2, n2, s2, h2, d2⟩ <;> cases e1 : (t1 == t2) <;> cases e2 : (q1 == q2) <;> go_simp
theorem irI_ok' {w : World} {hi : Nat} {x : Itm} {v : Value} (hv : ItemV w 0 hi x v) : (irI x).ok := by
  rw [irI_eq]
  cases h : irOk x
  · exact zeroId_ok
  · rw [if_pos rfl]
    unfold irOk at h
    simp only [Bool.and_eq_true, decide_eq_true_eq] at h
    exact ig_ok hv h.1.1.1 h.1.1.2
end Go.Proofs.YtbgcbcnidjlhnaaDoor.Eid
namespace Go.Proofs.YtbgcbcnidjlhnaaDoor.IdentTells
open Go.RowKit Wd Eid Cb Great
attribute [local go_sem ↓ high] Eid.run_id5

/-- The cells of a number. -/
abbrev C7 (w : World) (g : Nat) (x : Eid.Id) : Prop := w.cell? ⟨g, 0, none⟩ = some (.bool x.src.ipn) ∧ w.cell? ⟨g, 1, none⟩ = some (.int .u64 x.src.node) ∧ w.cell? ⟨g, 2, none⟩ = some (.int .u64 x.src.service) ∧ w.cell? ⟨g, 3, none⟩ = some (.string x.src.host) ∧ w.cell? ⟨g, 4, none⟩ = some (.string x.src.demux) ∧ w.cell? ⟨g, 5, none⟩ = some (.int .u64 x.time) ∧ w.cell? ⟨g, 6, none⟩ = some (.int .u64 x.seq)

set_option maxRecDepth 100000 in
set_option maxHeartbeats 8000000 in
theorem walk (x y : Eid.Id) (z : Itm) (v : Value) (w : World) (hx : x.ok) (hy : y.ok) (hv : ItemV w 0 w.heap.size z v) (G : Gl w) : Calls Tryd.prog 3 #[x.val, y.val, v] w fun e w' => e = .returned (.bool true) ∧ Below w.heap.size w w' := by
  have CA := Lib.hid (fun w' g => alive05_any w' g)
  have CGx := Lib.hid (fun w' => great05_any x w')
  have CGy := Lib.hid (fun w' => great05_any y w')
  have CGz := Lib.hid (fun v w' hv => great_rec (deep z) z v 1 400 w' (Nat.le_refl _) hv (by omega) (by omega) (by omega) (by omega))
  have CAx := Lib.hid (fun w' => as05_any x w')
  have CAy := Lib.hid (fun w' => as05_any y w')
  have CAb := Lib.hid (fun w' => as05_any (irI z) w')
  have CW := Lib.hid (fun w' => iwrite_any x hx w')
  have CT := Lib.hid (fun w' g => itext_any x hx w' g)
  have CRZ := Lib.hid (fun u w' hu => iread_any z u w' hu)
  have CRx := Lib.hid (fun w' => iright_any x hx w')
  have CRa := Lib.hid (fun w' => right05_any x hx w')
  have CXY := Lib.hid (fun w' => iahead_any x y w')
  have CXYr := Lib.hid (fun w' => ahead05_any x y w')
  have CT5 := Lib.hid (fun hr w' => text05_any x hx hr w')
  have CW5 := Lib.hid (fun hr w' => write05_any x hx hr w')
  have HIS := Lib.hid (fun hr => iitem_small x hx hr)
  have HIR : Hid ((irE z = 3 ∧ irOk z = false) ∨ (irE z = 0 ∧ irOk z = true)) := Lib.hid (by
    cases h : irOk z
    · left; rw [irE_eq, h]; exact ⟨rfl, rfl⟩
    · right; rw [irE_eq, h]; exact ⟨rfl, rfl⟩)
  have CAS := Lib.hid (fun (h : 0 ≤ grt z 1 400) v w' (hv : ItemV w' 0 w'.heap.size z v) => As03.as_any z v w'.heap.size 10 w' hv (Nat.le_refl _) (by have := grt_ok z 1 400 (by omega) (by omega) h; omega) (by omega) (by have := grt_ok z 1 400 (by omega) (by omega) h; omega))
  have CRR : Hid (0 ≤ grt z 1 400 → ∀ v w', ItemV w' 0 w'.heap.size z v → Calls Tryd.prog 19 #[v] w' fun e w1 => e = .returned (.tuple #[(irI z).val, .bool (irOk z)]) ∧ Below w'.heap.size w' w1) := Lib.hid (fun h v w' hv => by
    have hs := grt_ok z 1 400 (by omega) (by omega) h
    have hbk : ∀ k (hk : k < z.sub.length), ∀ j (hj : j < (z.sub[k]).sub.length), ((z.sub[k]).sub[j]).bs.length ≤ 3000 := fun k hk => by
      obtain ⟨lf', _, _, h3⟩ := grt_in z 1 400 h k hk
      exact grt_subs _ _ _ h3
    refine read05_any z v w' hv (by omega) (fun k hk => ?_) (fun k hk j hj => Nat.le_trans (hbk k hk j hj) (by omega))
    obtain ⟨u, hu⟩ := part_of hv hk
    exact r4_same hu (hbk k hk))
  obtain ⟨A, c, A', c', rfl, -⟩ := hv.open_
  have HEQ := Lib.hid (idEq_self (irI z))
  have HG := Lib.hid G
  have HB := Lib.hid ((((Below.refl w.heap.size w).alloc (Nat.le_refl _) (.cells x.cells 26)).alloc (by simp) (.cells y.cells 26)).alloc (by simp; omega) (.cells #[.int .i64 z.kind, .int .u64 z.num, .slice A z.bs.length c, .slice A' z.sub.length c'] 30))
  have HKx := Lib.hid (((Blk.new w 26 x.cells).alloc (.cells y.cells 26)).alloc (.cells #[.int .i64 z.kind, .int .u64 z.num, .slice A z.bs.length c, .slice A' z.sub.length c'] 30))
  have k2 := (Blk.new (w.alloc (.cells x.cells 26)) 26 y.cells).alloc (.cells #[.int .i64 z.kind, .int .u64 z.num, .slice A z.bs.length c, .slice A' z.sub.length c'] 30)
  have k3 := Blk.new ((w.alloc (.cells x.cells 26)).alloc (.cells y.cells 26)) 30 #[.int .i64 z.kind, .int .u64 z.num, .slice A z.bs.length c, .slice A' z.sub.length c']
  simp only [World.size_alloc] at k2 k3
  have HKy := Lib.hid k2
  have HKz := Lib.hid k3
  have HZV := Lib.hid ((hv.below HB.out).more (Nat.le_refl _) HB.out.size)
  clear hx hy hv G k2 k3
  generalize hgx : decide (300 < wrap64 ((x.src.host.size : Int) + x.src.demux.size)) = gx at *
  generalize hgy : decide (300 < wrap64 ((y.src.host.size : Int) + y.src.demux.size)) = gy at *
  clear hgx hgy
  obtain ⟨ew, hew⟩ : ∃ k : Int, k = (if iright x then 0 else 3) := ⟨_, rfl⟩
  rw [← hew] at CW CT
  have HEW := Lib.hid hew
  clear hew
  obtain ⟨tx, htx⟩ : ∃ k : ByteArray, k = (if iright x then itext x else ⟨#[]⟩) := ⟨_, rfl⟩
  rw [← htx] at CT
  have HTX := Lib.hid htx
  clear htx
  generalize iright x = r at *
  generalize itext x = tX at *
  generalize iitem x = T at *
  generalize ils x y = il at *
  generalize irE z = er at *
  generalize irOk z = ro at *
  generalize irI z = b at *
  generalize grt z 1 400 = gz at *
  obtain ⟨⟨xi, xn, xs, xh, xd⟩, xt, xq⟩ := x
  obtain ⟨⟨yi, yn, ys, yh, yd⟩, yt, yq⟩ := y
  obtain ⟨⟨bi, bn, bs, bh, bd⟩, bt, bq⟩ := b
  go_enter Tryd.func3, Tryd.ntmps3
  go_upto_region 1 with (fail)
  generalize ((w.alloc (.cells #[.bool xi, .int .u64 xn, .int .u64 xs, .string xh, .string xd, .int .u64 xt, .int .u64 xq] 26)).alloc (.cells #[.bool yi, .int .u64 yn, .int .u64 ys, .string yh, .string yd, .int .u64 yt, .int .u64 yq] 26)).alloc (.cells #[.int .i64 z.kind, .int .u64 z.num, .slice A z.bs.length c, .slice A' z.sub.length c'] 30) = W at *
  have KX := Lib.hid (fun (W' : World) (hW : Below W.heap.size W W') => cells7 (HKx.out.next hW))
  have KY := Lib.hid (fun (W' : World) (hW : Below W.heap.size W W') => cells7 (HKy.out.next hW))
  have KZ := Lib.hid (fun (W' : World) (hW : Below W.heap.size W W') => cell4 (HKz.out.next hW))
  have KV := Lib.hid (fun (W' : World) (hW : Below W.heap.size W W') => (HZV.out.below hW).more (Nat.le_refl _) hW.size)
  have HBE : Hid (∀ W', Below W.heap.size W W' → Below w.heap.size w W') := Lib.hid (fun W' h => below_next HB.out HB.out.size h)
  have HGW := Lib.hid (fun (W' : World) (hW : Below W.heap.size W W') => (HG.out.below HB.out).below hW)
  have hAl : Hid (∀ W', Below W.heap.size W W' → Calls Tryd.prog 14 #[] W' fun e w1 => e = .returned (.bool true) ∧ Below W.heap.size W w1 ∧ Below W'.heap.size W' w1) := Lib.hid (fun W' hW => by
    refine (CA.out W' (HGW.out W' hW)).mono ?_
    rintro e w1 ⟨rfl, hb⟩
    exact ⟨rfl, below_next hW hW.size hb, hb⟩)
  clear HG CA HB HKx HKy HKz HZV
  obtain ⟨x0, x1, x2, x3, x4, x5, x6⟩ := KX.out W (Below.refl _ _)
  go_wp2_with fail
  refine (CGx.out W).mono ?_
  rintro e w1 ⟨rfl, hb1⟩
  have HBn := Lib.hid hb1
  clear hb1 x0 x1 x2 x3 x4 x5 x6 CGx
  cases gx
  rotate_left
  · go_wp2_with fail
    refine (hAl.out _ HBn.out).mono ?_
    rintro e we ⟨rfl, hb, -⟩
    have HBe := Lib.hid hb
    clear hb
    go_wp2_with fail
    go_ret
    exact ⟨rfl, HBE.out _ HBe.out⟩
  obtain ⟨y0, y1, y2, y3, y4, y5, y6⟩ := KY.out w1 HBn.out
  go_wp2_with fail
  refine (CGy.out w1).mono ?_
  rintro e w2 ⟨rfl, hb2⟩
  have HB2 := Lib.hid (below_next HBn.out HBn.out.size hb2)
  clear HBn hb2 y0 y1 y2 y3 y4 y5 y6 CGy
  have HBn := HB2
  clear HB2
  cases gy
  rotate_left
  · go_wp2_with fail
    refine (hAl.out _ HBn.out).mono ?_
    rintro e we ⟨rfl, hb, -⟩
    have HBe := Lib.hid hb
    clear hb
    go_wp2_with fail
    go_ret
    exact ⟨rfl, HBE.out _ HBe.out⟩
  obtain ⟨z0, z1, z2, z3⟩ := KZ.out w2 HBn.out
  go_wp2_with fail
  refine (CGz.out _ w2 (KV.out _ HBn.out)).mono ?_
  rintro e w3 ⟨rfl, hb3⟩
  have HB3 := Lib.hid (below_next HBn.out HBn.out.size hb3)
  clear HBn hb3 z0 z1 z2 z3 CGz
  have HBn := HB3
  clear HB3
  cases hgz : decide (gz < 0)
  rotate_left
  · go_wp2_with fail
    refine (hAl.out _ HBn.out).mono ?_
    rintro e we ⟨rfl, hb, -⟩
    have HBe := Lib.hid hb
    clear hb
    go_wp2_with fail
    go_ret
    exact ⟨rfl, HBE.out _ HBe.out⟩
  have hg0 : 0 ≤ gz := by have := of_decide_eq_false hgz; omega
  have CAS' := Lib.hid (CAS.out hg0)
  have CRR' := Lib.hid (CRR.out hg0)
  clear CAS CRR hg0
  obtain ⟨x0, x1, x2, x3, x4, x5, x6⟩ := KX.out w3 HBn.out
  go_wp2_with fail
  clear hgz
  refine (CAx.out w3).mono ?_
  rintro e w4 ⟨rfl, hb4⟩
  have HB4 := Lib.hid (below_next HBn.out HBn.out.size hb4)
  have HA5 := Lib.hid (Blk.new w4 36 #[.bool xi, .int .u64 xn, .int .u64 xs, .string xh, .string xd, .int .u64 xt, .int .u64 xq])
  have HB5 := Lib.hid (HB4.out.alloc HB4.out.size (.cells #[.bool xi, .int .u64 xn, .int .u64 xs, .string xh, .string xd, .int .u64 xt, .int .u64 xq] 36))
  clear hb4 HBn HB4 x0 x1 x2 x3 x4 x5 x6 CAx
  go_upto_region 4 with (fail)
  generalize w4.alloc (.cells #[.bool xi, .int .u64 xn, .int .u64 xs, .string xh, .string xd, .int .u64 xt, .int .u64 xq] 36) = W5 at *
  obtain ⟨x0, x1, x2, x3, x4, x5, x6⟩ := KX.out W5 HB5.out
  go_wp2_with fail
  refine (CW.out W5).mono ?_
  rintro e w6 ⟨vb, rfl, HIB, hb6⟩
  obtain ⟨kb, nb, Ab, lb, cb, Ab', lb', cb', hvb⟩ : ∃ kb nb Ab lb cb Ab' lb' cb', vb = .agg #[.int .i64 kb, .int .u64 nb, .slice Ab lb cb, .slice Ab' lb' cb'] := by
    obtain ⟨_, _, _, _, e, _⟩ := HIB.out.open_
    exact ⟨_, _, _, _, _, _, _, _, e⟩
  subst hvb
  have HB6 := Lib.hid (below_next HB5.out HB5.out.size hb6)
  have HI7 := Lib.hid ((HIB.out.alloc (Nat.le_refl _) (.cells #[.int .i64 kb, .int .u64 nb, .slice Ab lb cb, .slice Ab' lb' cb'] 30)).more (Nat.le_refl _) (show w6.heap.size ≤ (w6.alloc (.cells #[.int .i64 kb, .int .u64 nb, .slice Ab lb cb, .slice Ab' lb' cb'] 30)).heap.size by simp))
  have HU7 := Lib.hid (Blk.new w6 30 #[.int .i64 kb, .int .u64 nb, .slice Ab lb cb, .slice Ab' lb' cb'])
  have HA7 := Lib.hid ((HA5.out.next hb6).alloc (.cells #[.int .i64 kb, .int .u64 nb, .slice Ab lb cb, .slice Ab' lb' cb'] 30))
  have HB7 := Lib.hid (HB6.out.alloc HB6.out.size (.cells #[.int .i64 kb, .int .u64 nb, .slice Ab lb cb, .slice Ab' lb' cb'] 30))
  clear hb6 HIB x0 x1 x2 x3 x4 x5 x6 HB5 HB6 HA5 CW
  go_upto_region 5 with (fail)
  generalize w6.alloc (.cells #[.int .i64 kb, .int .u64 nb, .slice Ab lb cb, .slice Ab' lb' cb'] 30) = W7 at *
  obtain ⟨x0, x1, x2, x3, x4, x5, x6⟩ := KX.out W7 HB7.out
  go_wp2_with fail
  refine (CT.out W7 (HGW.out _ HB7.out)).mono ?_
  rintro e w8 ⟨rfl, hb8⟩
  have HB8 := Lib.hid (below_next HB7.out HB7.out.size hb8)
  have HI8 := Lib.hid ((HI7.out.below hb8).more (Nat.le_refl _) hb8.size)
  have HU8 := Lib.hid (HU7.out.next hb8)
  have HA8 := Lib.hid (HA7.out.next hb8)
  clear hb8 HB7 HI7 HU7 HA7 x0 x1 x2 x3 x4 x5 x6 CT
  obtain ⟨z0, z1, z2, z3⟩ := KZ.out w8 HB8.out
  go_wp2_with fail
  refine (CRZ.out _ w8 (KV.out _ HB8.out)).mono ?_
  rintro e w9 ⟨rfl, hb9⟩
  have HB9 := Lib.hid (below_next HB8.out HB8.out.size hb9)
  have HI10 := Lib.hid (((HI8.out.below hb9).more (Nat.le_refl _) hb9.size).alloc (Nat.le_refl _) (.cells #[.bool bi, .int .u64 bn, .int .u64 bs, .string bh, .string bd, .int .u64 bt, .int .u64 bq] 26) |>.more (Nat.le_refl _) (show w9.heap.size ≤ (w9.alloc (.cells #[.bool bi, .int .u64 bn, .int .u64 bs, .string bh, .string bd, .int .u64 bt, .int .u64 bq] 26)).heap.size by simp))
  have HU10 := Lib.hid ((HU8.out.next hb9).alloc (.cells #[.bool bi, .int .u64 bn, .int .u64 bs, .string bh, .string bd, .int .u64 bt, .int .u64 bq] 26))
  have HA10 := Lib.hid ((HA8.out.next hb9).alloc (.cells #[.bool bi, .int .u64 bn, .int .u64 bs, .string bh, .string bd, .int .u64 bt, .int .u64 bq] 26))
  have HP10 := Lib.hid (Blk.new w9 26 #[.bool bi, .int .u64 bn, .int .u64 bs, .string bh, .string bd, .int .u64 bt, .int .u64 bq])
  have HB10 := Lib.hid (HB9.out.alloc HB9.out.size (.cells #[.bool bi, .int .u64 bn, .int .u64 bs, .string bh, .string bd, .int .u64 bt, .int .u64 bq] 26))
  clear hb9 HB8 HI8 HU8 HA8 z0 z1 z2 z3 CRZ HB9
  go_upto_region 7 with (fail)
  generalize w9.alloc (.cells #[.bool bi, .int .u64 bn, .int .u64 bs, .string bh, .string bd, .int .u64 bt, .int .u64 bq] 26) = W10 at *
  obtain ⟨z0, z1, z2, z3⟩ := KZ.out W10 HB10.out
  go_wp2_with fail
  refine (CAS'.out _ W10 (KV.out _ HB10.out)).mono ?_
  rintro e w11 ⟨va, rfl, HIA, hb11⟩
  have HB11 := Lib.hid (below_next HB10.out HB10.out.size hb11)
  have HI11 := Lib.hid ((HI10.out.below hb11).more (Nat.le_refl _) hb11.size)
  have HU11 := Lib.hid (HU10.out.next hb11)
  have HA11 := Lib.hid (HA10.out.next hb11)
  have HP11 := Lib.hid (HP10.out.next hb11)
  clear hb11 HB10 HI10 HU10 HA10 HP10 z0 z1 z2 z3
  go_wp2_with fail
  refine (CRR'.out _ w11 HIA.out).mono ?_
  rintro e w12 ⟨rfl, hb12⟩
  have HB12 := Lib.hid (below_next HB11.out HB11.out.size hb12)
  have HI13 := Lib.hid (((HI11.out.below hb12).more (Nat.le_refl _) hb12.size).alloc (Nat.le_refl _) (.cells #[.bool bi, .int .u64 bn, .int .u64 bs, .string bh, .string bd, .int .u64 bt, .int .u64 bq] 36) |>.more (Nat.le_refl _) (show w12.heap.size ≤ (w12.alloc (.cells #[.bool bi, .int .u64 bn, .int .u64 bs, .string bh, .string bd, .int .u64 bt, .int .u64 bq] 36)).heap.size by simp))
  have HU13 := Lib.hid ((HU11.out.next hb12).alloc (.cells #[.bool bi, .int .u64 bn, .int .u64 bs, .string bh, .string bd, .int .u64 bt, .int .u64 bq] 36))
  have HA13 := Lib.hid ((HA11.out.next hb12).alloc (.cells #[.bool bi, .int .u64 bn, .int .u64 bs, .string bh, .string bd, .int .u64 bt, .int .u64 bq] 36))
  have HP13 := Lib.hid ((HP11.out.next hb12).alloc (.cells #[.bool bi, .int .u64 bn, .int .u64 bs, .string bh, .string bd, .int .u64 bt, .int .u64 bq] 36))
  have HQ13 := Lib.hid (Blk.new w12 36 #[.bool bi, .int .u64 bn, .int .u64 bs, .string bh, .string bd, .int .u64 bt, .int .u64 bq])
  have HB13 := Lib.hid (HB12.out.alloc HB12.out.size (.cells #[.bool bi, .int .u64 bn, .int .u64 bs, .string bh, .string bd, .int .u64 bt, .int .u64 bq] 36))
  clear hb12 HB11 HI11 HU11 HA11 HP11 HB12 CAS' CRR' HIA
  go_upto_region 8 with (fail)
  generalize w12.alloc (.cells #[.bool bi, .int .u64 bn, .int .u64 bs, .string bh, .string bd, .int .u64 bt, .int .u64 bq] 36) = W13 at *
  have HBd := Lib.hid (Below.refl W13.heap.size W13).drew
  have KC := Lib.hid (fun (W' : World) (h : Below W13.heap.size W13 W') => show C7 W' w.heap.size ⟨⟨xi, xn, xs, xh, xd⟩, xt, xq⟩ ∧ C7 W' (w.heap.size + 1) ⟨⟨yi, yn, ys, yh, yd⟩, yt, yq⟩ ∧ C7 W' w4.heap.size ⟨⟨xi, xn, xs, xh, xd⟩, xt, xq⟩ ∧ C7 W' w9.heap.size ⟨⟨bi, bn, bs, bh, bd⟩, bt, bq⟩ ∧ C7 W' w12.heap.size ⟨⟨bi, bn, bs, bh, bd⟩, bt, bq⟩ from
    ⟨KX.out W' (below_next HB13.out HB13.out.size h), KY.out W' (below_next HB13.out HB13.out.size h), cells7 (HA13.out.next h), cells7 (HP13.out.next h), cells7 (HQ13.out.next h)⟩)
  have heq := HEQ.out
  have CALL : True := trivial
  have REST : Hid (Below W13.heap.size W13 W13 → True) := Lib.hid fun _ => trivial
  clear CALL REST
  rcases HIR.out with ⟨e1, e2⟩ | ⟨e1, e2⟩
  · subst e1 e2
    clear HIR
    refine wp_region_held_drew (S := (fun w' => C7 w' w.heap.size ⟨⟨xi, xn, xs, xh, xd⟩, xt, xq⟩ ∧ C7 w' (w.heap.size + 1) ⟨⟨yi, yn, ys, yh, yd⟩, yt, yq⟩ ∧ C7 w' w4.heap.size ⟨⟨xi, xn, xs, xh, xd⟩, xt, xq⟩ ∧ C7 w' w9.heap.size ⟨⟨bi, bn, bs, bh, bd⟩, bt, bq⟩ ∧ C7 w' w12.heap.size ⟨⟨bi, bn, bs, bh, bd⟩, bt, bq⟩)) (by kernel_rfl) (KC.out _ HBd.out) (fun hHeld => ?_)
    first
    | (refine wpAnyH_take (i := 0) (oi := ({ dst := some 51, op := Op.load 26 (Operand.tmp 3), type := 26, pos := "law.go:55", after := #[], guard := none })) (v := ?_) rfl (by kernel_rfl) (by kernel_rfl) (by kernel_rfl) (fun _ _ _ h => h) (Or.inl ⟨by rfl, ?_⟩) hHeld ?_
       rotate_left
       · intro w hSw
         (try dsimp only at hSw)
         go_simp
         try with_reducible rfl
       try simp only [Act.put, List.setIfInBounds_toArray, List.set_cons_zero, List.set_cons_succ])
    | fail
    first
    | (refine wpAnyH_take (i := 2) (oi := ({ dst := some 53, op := Op.load 36 (Operand.tmp 7), type := 36, pos := "law.go:55", after := #[], guard := none })) (v := ?_) rfl (by kernel_rfl) (by kernel_rfl) (by kernel_rfl) (fun _ _ _ h => h) (Or.inl ⟨by rfl, ?_⟩) hHeld ?_
       rotate_left
       · intro w hSw
         (try dsimp only at hSw)
         go_simp
         try with_reducible rfl
       try simp only [Act.put, List.setIfInBounds_toArray, List.set_cons_zero, List.set_cons_succ])
    | fail
    refine wpAnyH_ready (rs := [1]) (by kernel_rfl) (by simp) ?_
    refine AllReadyH.cons (o := ({ dst := some 52, op := Op.call { callee := Callee.value (Operand.func 21), args := #[Operand.tmp 51], argTypes := #[26] }, type := 4, pos := "law.go:55", after := #[{ on := 0, ground := Ground.data }], guard := none })) rfl (fun K hK => ?_) AllReadyH.nil
    go_simp
    refine (CRx.out _).mono ?_
    rintro e wA ⟨rfl, hbA⟩
    have HBA := Lib.hid (below_next HBd.out HBd.out.size hbA)
    clear hbA
    refine hK.out _ _ ?_ (fun hHeld2 => ?_)
    · (try dsimp only)
      exact KC.out _ HBA.out
    clear hK K hHeld
    rename _ => hHeld
    try simp only [Act.put, List.setIfInBounds_toArray, List.set_cons_zero, List.set_cons_succ]
    refine wpAnyH_ready (rs := [3]) (by kernel_rfl) (by simp) ?_
    refine AllReadyH.cons (o := ({ dst := some 54, op := Op.call { callee := Callee.value (Operand.func 22), args := #[Operand.tmp 53], argTypes := #[36] }, type := 4, pos := "law.go:55", after := #[{ on := 2, ground := Ground.data }, { on := 1, ground := Ground.chain }], guard := none })) rfl (fun K hK => ?_) AllReadyH.nil
    go_simp
    refine (CRa.out _).mono ?_
    rintro e wB ⟨rfl, hbB⟩
    have HBB := Lib.hid (below_next HBA.out HBA.out.size hbB)
    clear hbB
    refine hK.out _ _ ?_ (fun hHeld2 => ?_)
    · (try dsimp only)
      exact KC.out _ HBB.out
    clear hK K hHeld
    rename _ => hHeld
    try simp only [Act.put, List.setIfInBounds_toArray, List.set_cons_zero, List.set_cons_succ]
    first
    | (refine wpAnyH_take (i := 4) (oi := ({ dst := some 55, op := Op.binOp BinOp.neq 4 (Operand.tmp 52) (Operand.tmp 54) 4, type := 4, pos := "law.go:55", after := #[{ on := 1, ground := Ground.data }, { on := 3, ground := Ground.data }], guard := none })) (v := ?_) rfl (by kernel_rfl) (by kernel_rfl) (by kernel_rfl) (fun _ _ _ h => h) (Or.inl ⟨by rfl, ?_⟩) hHeld ?_
       rotate_left
       · intro w hSw
         (try dsimp only at hSw)
         go_simp
         try with_reducible rfl
       try simp only [Act.put, List.setIfInBounds_toArray, List.set_cons_zero, List.set_cons_succ])
    | fail
    first
    | (refine wpAnyH_take (i := 5) (oi := ({ dst := some 56, op := Op.move (Operand.tmp 55), type := 4, pos := "law.go:55", after := #[{ on := 4, ground := Ground.data }, { on := 3, ground := Ground.chain }], guard := none })) (v := ?_) rfl (by kernel_rfl) (by kernel_rfl) (by kernel_rfl) (fun _ _ _ h => h) (Or.inl ⟨by rfl, ?_⟩) hHeld ?_
       rotate_left
       · intro w hSw
         (try dsimp only at hSw)
         go_simp
         try with_reducible rfl
       try simp only [Act.put, List.setIfInBounds_toArray, List.set_cons_zero, List.set_cons_succ])
    | fail
    first
    | (refine wpAnyH_take (i := 6) (oi := ({ dst := some 57, op := Op.load 26 (Operand.tmp 3), type := 26, pos := "law.go:55", after := #[{ on := 5, ground := Ground.guard }], guard := some (5, false) })) (v := ?_) rfl (by kernel_rfl) (by kernel_rfl) (by kernel_rfl) (fun _ _ _ h => h) (Or.inl ⟨by rfl, ?_⟩) hHeld ?_
       rotate_left
       · intro w hSw
         (try dsimp only at hSw)
         go_simp
         try with_reducible rfl
       try simp only [Act.put, List.setIfInBounds_toArray, List.set_cons_zero, List.set_cons_succ])
    | fail
    first
    | (refine wpAnyH_take (i := 7) (oi := ({ dst := some 58, op := Op.load 26 (Operand.tmp 4), type := 26, pos := "law.go:55", after := #[{ on := 5, ground := Ground.guard }], guard := some (5, false) })) (v := ?_) rfl (by kernel_rfl) (by kernel_rfl) (by kernel_rfl) (fun _ _ _ h => h) (Or.inl ⟨by rfl, ?_⟩) hHeld ?_
       rotate_left
       · intro w hSw
         (try dsimp only at hSw)
         go_simp
         try with_reducible rfl
       try simp only [Act.put, List.setIfInBounds_toArray, List.set_cons_zero, List.set_cons_succ])
    | fail
    first
    | (refine wpAnyH_take (i := 9) (oi := ({ dst := some 60, op := Op.load 36 (Operand.tmp 7), type := 36, pos := "law.go:55", after := #[{ on := 5, ground := Ground.guard }], guard := some (5, false) })) (v := ?_) rfl (by kernel_rfl) (by kernel_rfl) (by kernel_rfl) (fun _ _ _ h => h) (Or.inl ⟨by rfl, ?_⟩) hHeld ?_
       rotate_left
       · intro w hSw
         (try dsimp only at hSw)
         go_simp
         try with_reducible rfl
       try simp only [Act.put, List.setIfInBounds_toArray, List.set_cons_zero, List.set_cons_succ])
    | fail
    first
    | (refine wpAnyH_take (i := 10) (oi := ({ dst := some 61, op := Op.load 26 (Operand.tmp 4), type := 26, pos := "law.go:55", after := #[{ on := 5, ground := Ground.guard }], guard := some (5, false) })) (v := ?_) rfl (by kernel_rfl) (by kernel_rfl) (by kernel_rfl) (fun _ _ _ h => h) (Or.inl ⟨by rfl, ?_⟩) hHeld ?_
       rotate_left
       · intro w hSw
         (try dsimp only at hSw)
         go_simp
         try with_reducible rfl
       try simp only [Act.put, List.setIfInBounds_toArray, List.set_cons_zero, List.set_cons_succ])
    | fail
    refine wpAnyH_ready (rs := [8]) (by kernel_rfl) (by simp) ?_
    refine AllReadyH.cons (o := ({ dst := some 59, op := Op.call { callee := Callee.value (Operand.func 23), args := #[Operand.tmp 57, Operand.tmp 58], argTypes := #[26, 26] }, type := 4, pos := "law.go:55", after := #[{ on := 6, ground := Ground.data }, { on := 7, ground := Ground.data }, { on := 5, ground := Ground.chain }, { on := 5, ground := Ground.guard }], guard := some (5, false) })) rfl (fun K hK => ?_) AllReadyH.nil
    go_simp
    refine (CXY.out _).mono ?_
    rintro e wC ⟨rfl, hbC⟩
    have HBC := Lib.hid (below_next HBB.out HBB.out.size hbC)
    clear hbC
    refine hK.out _ _ ?_ (fun hHeld2 => ?_)
    · (try dsimp only)
      exact KC.out _ HBC.out
    clear hK K hHeld
    rename _ => hHeld
    try simp only [Act.put, List.setIfInBounds_toArray, List.set_cons_zero, List.set_cons_succ]
    refine wpAnyH_ready (rs := [11]) (by kernel_rfl) (by simp) ?_
    refine AllReadyH.cons (o := ({ dst := some 62, op := Op.call { callee := Callee.value (Operand.func 15), args := #[Operand.tmp 61], argTypes := #[26] }, type := 36, pos := "law.go:55", after := #[{ on := 10, ground := Ground.data }, { on := 8, ground := Ground.chain }, { on := 5, ground := Ground.guard }], guard := some (5, false) })) rfl (fun K hK => ?_) AllReadyH.nil
    go_simp
    refine (CAy.out _).mono ?_
    rintro e wD ⟨rfl, hbD⟩
    have HBD := Lib.hid (below_next HBC.out HBC.out.size hbD)
    clear hbD
    refine hK.out _ _ ?_ (fun hHeld2 => ?_)
    · (try dsimp only)
      exact KC.out _ HBD.out
    clear hK K hHeld
    rename _ => hHeld
    try simp only [Act.put, List.setIfInBounds_toArray, List.set_cons_zero, List.set_cons_succ]
    refine wpAnyH_ready (rs := [12]) (by kernel_rfl) (by simp) ?_
    refine AllReadyH.cons (o := ({ dst := some 63, op := Op.call { callee := Callee.value (Operand.func 24), args := #[Operand.tmp 60, Operand.tmp 62], argTypes := #[36, 36] }, type := 4, pos := "law.go:55", after := #[{ on := 9, ground := Ground.data }, { on := 11, ground := Ground.data }, { on := 11, ground := Ground.chain }, { on := 5, ground := Ground.guard }], guard := some (5, false) })) rfl (fun K hK => ?_) AllReadyH.nil
    go_simp
    refine (CXYr.out _).mono ?_
    rintro e wE ⟨rfl, hbE⟩
    have HBF := Lib.hid (below_next HBD.out HBD.out.size hbE)
    clear hbE
    refine hK.out _ _ ?_ (fun hHeld2 => ?_)
    · (try dsimp only)
      exact KC.out _ HBF.out
    clear hK K hHeld
    rename _ => hHeld
    try simp only [Act.put, List.setIfInBounds_toArray, List.set_cons_zero, List.set_cons_succ]
    first
    | (refine wpAnyH_take (i := 13) (oi := ({ dst := some 64, op := Op.binOp BinOp.neq 4 (Operand.tmp 59) (Operand.tmp 63) 4, type := 4, pos := "law.go:55", after := #[{ on := 8, ground := Ground.data }, { on := 12, ground := Ground.data }, { on := 5, ground := Ground.guard }], guard := some (5, false) })) (v := ?_) rfl (by kernel_rfl) (by kernel_rfl) (by kernel_rfl) (fun _ _ _ h => h) (Or.inl ⟨by rfl, ?_⟩) hHeld ?_
       rotate_left
       · intro w hSw
         (try dsimp only at hSw)
         go_simp
         try with_reducible rfl
       try simp only [Act.put, List.setIfInBounds_toArray, List.set_cons_zero, List.set_cons_succ])
    | fail
    first
    | (refine wpAnyH_take (i := 14) (oi := ({ dst := some 65, op := Op.pick (Operand.tmp 56) (Operand.const (Value.bool true)) (Operand.tmp 64), type := 4, pos := "law.go:55", after := #[{ on := 5, ground := Ground.data }, { on := 13, ground := Ground.data }], guard := none })) (v := ?_) rfl (by kernel_rfl) (by kernel_rfl) (by kernel_rfl) (fun _ _ _ h => h) (Or.inl ⟨by rfl, ?_⟩) hHeld ?_
       rotate_left
       · intro w hSw
         (try dsimp only at hSw)
         go_simp
         try with_reducible rfl
       try simp only [Act.put, List.setIfInBounds_toArray, List.set_cons_zero, List.set_cons_succ])
    | fail
    first
    | (refine wpAnyH_take (i := 15) (oi := ({ dst := some 66, op := Op.move (Operand.tmp 65), type := 4, pos := "law.go:55", after := #[{ on := 14, ground := Ground.data }, { on := 12, ground := Ground.chain }], guard := none })) (v := ?_) rfl (by kernel_rfl) (by kernel_rfl) (by kernel_rfl) (fun _ _ _ h => h) (Or.inl ⟨by rfl, ?_⟩) hHeld ?_
       rotate_left
       · intro w hSw
         (try dsimp only at hSw)
         go_simp
         try with_reducible rfl
       try simp only [Act.put, List.setIfInBounds_toArray, List.set_cons_zero, List.set_cons_succ])
    | fail
    first
    | (refine wpAnyH_take (i := 16) (oi := ({ dst := some 67, op := Op.load 26 (Operand.tmp 12), type := 26, pos := "law.go:55", after := #[{ on := 15, ground := Ground.guard }], guard := some (15, false) })) (v := ?_) rfl (by kernel_rfl) (by kernel_rfl) (by kernel_rfl) (fun _ _ _ h => h) (Or.inl ⟨by rfl, ?_⟩) hHeld ?_
       rotate_left
       · intro w hSw
         (try dsimp only at hSw)
         go_simp
         try with_reducible rfl
       try simp only [Act.put, List.setIfInBounds_toArray, List.set_cons_zero, List.set_cons_succ])
    | fail
    first
    | (refine wpAnyH_take (i := 18) (oi := ({ dst := some 69, op := Op.load 36 (Operand.tmp 14), type := 36, pos := "law.go:55", after := #[{ on := 15, ground := Ground.guard }], guard := some (15, false) })) (v := ?_) rfl (by kernel_rfl) (by kernel_rfl) (by kernel_rfl) (fun _ _ _ h => h) (Or.inl ⟨by rfl, ?_⟩) hHeld ?_
       rotate_left
       · intro w hSw
         (try dsimp only at hSw)
         go_simp
         try with_reducible rfl
       try simp only [Act.put, List.setIfInBounds_toArray, List.set_cons_zero, List.set_cons_succ])
    | fail
    refine wpAnyH_ready (rs := [17]) (by kernel_rfl) (by simp) ?_
    refine AllReadyH.cons (o := ({ dst := some 68, op := Op.call { callee := Callee.value (Operand.func 15), args := #[Operand.tmp 67], argTypes := #[26] }, type := 36, pos := "law.go:55", after := #[{ on := 16, ground := Ground.data }, { on := 15, ground := Ground.chain }, { on := 15, ground := Ground.guard }], guard := some (15, false) })) rfl (fun K hK => ?_) AllReadyH.nil
    go_simp
    refine (CAb.out _).mono ?_
    rintro e wF ⟨rfl, hbF⟩
    have HBG := Lib.hid (below_next HBF.out HBF.out.size hbF)
    clear hbF
    refine hK.out _ _ ?_ (fun hHeld2 => ?_)
    · (try dsimp only)
      exact KC.out _ HBG.out
    clear hK K hHeld
    rename _ => hHeld
    try simp only [Act.put, List.setIfInBounds_toArray, List.set_cons_zero, List.set_cons_succ]
    first
    | (refine wpAnyH_take (i := 19) (oi := ({ dst := some 70, op := Op.binOp BinOp.neq 36 (Operand.tmp 68) (Operand.tmp 69) 36, type := 4, pos := "law.go:55", after := #[{ on := 17, ground := Ground.data }, { on := 18, ground := Ground.data }, { on := 15, ground := Ground.guard }], guard := some (15, false) })) (v := ?_) rfl (by kernel_rfl) (by kernel_rfl) (by kernel_rfl) (fun _ _ _ h => h) (Or.inl ⟨by rfl, ?_⟩) hHeld ?_
       rotate_left
       · intro w hSw
         (try dsimp only at hSw)
         go_simp
         try with_reducible rfl
       try simp only [Act.put, List.setIfInBounds_toArray, List.set_cons_zero, List.set_cons_succ])
    | fail
    first
    | (refine wpAnyH_take (i := 20) (oi := ({ dst := some 71, op := Op.pick (Operand.tmp 66) (Operand.const (Value.bool true)) (Operand.tmp 70), type := 4, pos := "law.go:55", after := #[{ on := 15, ground := Ground.data }, { on := 19, ground := Ground.data }], guard := none })) (v := ?_) rfl (by kernel_rfl) (by kernel_rfl) (by kernel_rfl) (fun _ _ _ h => h) (Or.inl ⟨by rfl, ?_⟩) hHeld ?_
       rotate_left
       · intro w hSw
         (try dsimp only at hSw)
         go_simp
         try with_reducible rfl
       try simp only [Act.put, List.setIfInBounds_toArray, List.set_cons_zero, List.set_cons_succ])
    | fail
    first
    | (refine wpAnyH_take (i := 21) (oi := ({ dst := some 72, op := Op.move (Operand.tmp 71), type := 4, pos := "law.go:55", after := #[{ on := 20, ground := Ground.data }, { on := 17, ground := Ground.chain }], guard := none })) (v := ?_) rfl (by kernel_rfl) (by kernel_rfl) (by kernel_rfl) (fun _ _ _ h => h) (Or.inl ⟨by rfl, ?_⟩) hHeld ?_
       rotate_left
       · intro w hSw
         (try dsimp only at hSw)
         go_simp
         try with_reducible rfl
       try simp only [Act.put, List.setIfInBounds_toArray, List.set_cons_zero, List.set_cons_succ])
    | fail
    first
    | (refine wpAnyH_take (i := 22) (oi := ({ dst := some 73, op := Op.move (Operand.tmp 13), type := 38, pos := "law.go:55", after := #[{ on := 21, ground := Ground.guard }], guard := some (21, false) })) (v := ?_) rfl (by kernel_rfl) (by kernel_rfl) (by kernel_rfl) (fun _ _ _ h => h) (Or.inl ⟨by rfl, ?_⟩) hHeld ?_
       rotate_left
       · intro w hSw
         (try dsimp only at hSw)
         go_simp
         try with_reducible rfl
       try simp only [Act.put, List.setIfInBounds_toArray, List.set_cons_zero, List.set_cons_succ])
    | fail
    first
    | (refine wpAnyH_take (i := 23) (oi := ({ dst := some 74, op := Op.binOp BinOp.eql 38 (Operand.tmp 73) (Operand.const (Value.int IntKind.i64 0)) 38, type := 4, pos := "law.go:55", after := #[{ on := 22, ground := Ground.data }, { on := 21, ground := Ground.guard }], guard := some (21, false) })) (v := ?_) rfl (by kernel_rfl) (by kernel_rfl) (by kernel_rfl) (fun _ _ _ h => h) (Or.inl ⟨by rfl, ?_⟩) hHeld ?_
       rotate_left
       · intro w hSw
         (try dsimp only at hSw)
         go_simp
         try with_reducible rfl
       try simp only [Act.put, List.setIfInBounds_toArray, List.set_cons_zero, List.set_cons_succ])
    | fail
    first
    | (refine wpAnyH_take (i := 24) (oi := ({ dst := some 75, op := Op.move (Operand.tmp 15), type := 4, pos := "law.go:55", after := #[{ on := 21, ground := Ground.guard }], guard := some (21, false) })) (v := ?_) rfl (by kernel_rfl) (by kernel_rfl) (by kernel_rfl) (fun _ _ _ h => h) (Or.inl ⟨by rfl, ?_⟩) hHeld ?_
       rotate_left
       · intro w hSw
         (try dsimp only at hSw)
         go_simp
         try with_reducible rfl
       try simp only [Act.put, List.setIfInBounds_toArray, List.set_cons_zero, List.set_cons_succ])
    | fail
    first
    | (refine wpAnyH_take (i := 25) (oi := ({ dst := some 76, op := Op.binOp BinOp.neq 4 (Operand.tmp 74) (Operand.tmp 75) 4, type := 4, pos := "law.go:55", after := #[{ on := 23, ground := Ground.data }, { on := 24, ground := Ground.data }, { on := 21, ground := Ground.guard }], guard := some (21, false) })) (v := ?_) rfl (by kernel_rfl) (by kernel_rfl) (by kernel_rfl) (fun _ _ _ h => h) (Or.inl ⟨by rfl, ?_⟩) hHeld ?_
       rotate_left
       · intro w hSw
         (try dsimp only at hSw)
         go_simp
         try with_reducible rfl
       try simp only [Act.put, List.setIfInBounds_toArray, List.set_cons_zero, List.set_cons_succ])
    | fail
    first
    | (refine wpAnyH_take (i := 26) (oi := ({ dst := some 77, op := Op.pick (Operand.tmp 72) (Operand.const (Value.bool true)) (Operand.tmp 76), type := 4, pos := "law.go:55", after := #[{ on := 21, ground := Ground.data }, { on := 25, ground := Ground.data }], guard := none })) (v := ?_) rfl (by kernel_rfl) (by kernel_rfl) (by kernel_rfl) (fun _ _ _ h => h) (Or.inl ⟨by rfl, ?_⟩) hHeld ?_
       rotate_left
       · intro w hSw
         (try dsimp only at hSw)
         go_simp
         try with_reducible rfl
       try simp only [Act.put, List.setIfInBounds_toArray, List.set_cons_zero, List.set_cons_succ])
    | fail
    first
    | (refine wpAnyH_take (i := 27) (oi := ({ dst := some 78, op := Op.move (Operand.tmp 77), type := 4, pos := "law.go:55", after := #[{ on := 26, ground := Ground.data }, { on := 21, ground := Ground.chain }], guard := none })) (v := ?_) rfl (by kernel_rfl) (by kernel_rfl) (by kernel_rfl) (fun _ _ _ h => h) (Or.inl ⟨by rfl, ?_⟩) hHeld ?_
       rotate_left
       · intro w hSw
         (try dsimp only at hSw)
         go_simp
         try with_reducible rfl
       try simp only [Act.put, List.setIfInBounds_toArray, List.set_cons_zero, List.set_cons_succ])
    | fail
    first
    | (refine wpAnyH_take (i := 28) (oi := ({ dst := some 79, op := Op.move (Operand.tmp 15), type := 4, pos := "law.go:55", after := #[{ on := 27, ground := Ground.guard }], guard := some (27, false) })) (v := ?_) rfl (by kernel_rfl) (by kernel_rfl) (by kernel_rfl) (fun _ _ _ h => h) (Or.inl ⟨by rfl, ?_⟩) hHeld ?_
       rotate_left
       · intro w hSw
         (try dsimp only at hSw)
         go_simp
         try with_reducible rfl
       try simp only [Act.put, List.setIfInBounds_toArray, List.set_cons_zero, List.set_cons_succ])
    | fail
    first
    | (refine wpAnyH_take (i := 29) (oi := ({ dst := some 80, op := Op.unOp UnOp.not 4 (Operand.tmp 79), type := 4, pos := "law.go:55", after := #[{ on := 28, ground := Ground.data }, { on := 27, ground := Ground.guard }], guard := some (27, false) })) (v := ?_) rfl (by kernel_rfl) (by kernel_rfl) (by kernel_rfl) (fun _ _ _ h => h) (Or.inl ⟨by rfl, ?_⟩) hHeld ?_
       rotate_left
       · intro w hSw
         (try dsimp only at hSw)
         go_simp
         try with_reducible rfl
       try simp only [Act.put, List.setIfInBounds_toArray, List.set_cons_zero, List.set_cons_succ])
    | fail
    first
    | (refine wpAnyH_take (i := 30) (oi := ({ dst := some 81, op := Op.move (Operand.tmp 80), type := 4, pos := "law.go:55", after := #[{ on := 29, ground := Ground.data }, { on := 27, ground := Ground.chain }, { on := 27, ground := Ground.guard }], guard := some (27, false) })) (v := ?_) rfl (by kernel_rfl) (by kernel_rfl) (by kernel_rfl) (fun _ _ _ h => h) (Or.inl ⟨by rfl, ?_⟩) hHeld ?_
       rotate_left
       · intro w hSw
         (try dsimp only at hSw)
         go_simp
         try with_reducible rfl
       try simp only [Act.put, List.setIfInBounds_toArray, List.set_cons_zero, List.set_cons_succ])
    | fail
    first
    | (refine wpAnyH_take (i := 31) (oi := ({ dst := some 82, op := Op.move (Operand.tmp 13), type := 38, pos := "law.go:55", after := #[{ on := 30, ground := Ground.guard }], guard := some (30, true) })) (v := ?_) rfl (by kernel_rfl) (by kernel_rfl) (by kernel_rfl) (fun _ _ _ h => h) (Or.inl ⟨by rfl, ?_⟩) hHeld ?_
       rotate_left
       · intro w hSw
         (try dsimp only at hSw)
         go_simp
         try with_reducible rfl
       try simp only [Act.put, List.setIfInBounds_toArray, List.set_cons_zero, List.set_cons_succ])
    | fail
    first
    | (refine wpAnyH_take (i := 32) (oi := ({ dst := some 83, op := Op.binOp BinOp.neq 38 (Operand.tmp 82) (Operand.const (Value.int IntKind.i64 3)) 38, type := 4, pos := "law.go:55", after := #[{ on := 31, ground := Ground.data }, { on := 30, ground := Ground.guard }], guard := some (30, true) })) (v := ?_) rfl (by kernel_rfl) (by kernel_rfl) (by kernel_rfl) (fun _ _ _ h => h) (Or.inl ⟨by rfl, ?_⟩) hHeld ?_
       rotate_left
       · intro w hSw
         (try dsimp only at hSw)
         go_simp
         try with_reducible rfl
       try simp only [Act.put, List.setIfInBounds_toArray, List.set_cons_zero, List.set_cons_succ])
    | fail
    first
    | (refine wpAnyH_take (i := 33) (oi := ({ dst := some 84, op := Op.pick (Operand.tmp 81) (Operand.tmp 83) (Operand.const (Value.bool false)), type := 4, pos := "law.go:55", after := #[{ on := 30, ground := Ground.data }, { on := 32, ground := Ground.data }, { on := 27, ground := Ground.guard }], guard := some (27, false) })) (v := ?_) rfl (by kernel_rfl) (by kernel_rfl) (by kernel_rfl) (fun _ _ _ h => h) (Or.inl ⟨by rfl, ?_⟩) hHeld ?_
       rotate_left
       · intro w hSw
         (try dsimp only at hSw)
         go_simp
         try with_reducible rfl
       try simp only [Act.put, List.setIfInBounds_toArray, List.set_cons_zero, List.set_cons_succ])
    | fail
    first
    | (refine wpAnyH_take (i := 34) (oi := ({ dst := some 85, op := Op.pick (Operand.tmp 78) (Operand.const (Value.bool true)) (Operand.tmp 84), type := 4, pos := "law.go:55", after := #[{ on := 27, ground := Ground.data }, { on := 33, ground := Ground.data }], guard := none })) (v := ?_) rfl (by kernel_rfl) (by kernel_rfl) (by kernel_rfl) (fun _ _ _ h => h) (Or.inl ⟨by rfl, ?_⟩) hHeld ?_
       rotate_left
       · intro w hSw
         (try dsimp only at hSw)
         go_simp
         try with_reducible rfl
       try simp only [Act.put, List.setIfInBounds_toArray, List.set_cons_zero, List.set_cons_succ])
    | fail
    refine wpAnyH_done (by kernel_rfl) ?_ _
    have HB14 := Lib.hid (below_next HB13.out HB13.out.size HBG.out)
    have HI14 := Lib.hid ((HI13.out.below HBG.out).more (Nat.le_refl _) HBG.out.size)
    have HU14 := Lib.hid (HU13.out.next HBG.out)
    have HA14 := Lib.hid (HA13.out.next HBG.out)
    clear KC HBd HBA HBB HBC HBD HBF HBG HB13 HI13 HU13 HA13 HP13 HQ13 heq HEQ CRx CXY CXYr CAy CAb
    go_upto_region 10 with (fail)
    obtain ⟨a0, a1, a2, a3, a4, a5, a6⟩ := cells7 HA14.out
    go_wp2_with fail
    refine (CRa.out _).mono ?_
    rintro e w15 ⟨rfl, hb15⟩
    have HB15 := Lib.hid (below_next HB14.out HB14.out.size hb15)
    have HI15 := Lib.hid ((HI14.out.below hb15).more (Nat.le_refl _) hb15.size)
    have HU15 := Lib.hid (HU14.out.next hb15)
    have HA15 := Lib.hid (HA14.out.next hb15)
    clear hb15 HB14 HI14 HU14 HA14 a0 a1 a2 a3 a4 a5 a6 CRa
    cases r
    · simp only [Bool.false_eq_true, if_false] at HI15
      have h1 := HEW.out
      have h2 := HTX.out
      simp only [Bool.false_eq_true, if_false] at h1 h2
      subst h1 h2
      obtain ⟨_, _, _, _, hv, -⟩ := HI15.out.open_
      have hlb : lb' = 0 := by
        have h3 := congrArg (fun v => match v with | Value.agg c => c.toList | _ => []) hv
        simp [Itm.sub] at h3
        exact h3.2.2.2.2.1
      subst hlb
      clear hv HI15 HA15 CT5 CW5 HIS HEW HTX
      go_wp2_with fail
      refine (hAl.out _ HB15.out).mono ?_
      rintro e w16 ⟨rfl, hb16, hbb⟩
      have HB16 := Lib.hid hb16
      obtain ⟨i0, i1, i2, i3⟩ := cell4 (HU15.out.next hbb)
      clear hb16 hbb HB15 HU15
      go_wp2_with fail
      go_ret
      exact ⟨rfl, HBE.out _ HB16.out⟩
    · simp only [if_true] at HI15
      have h1 := HEW.out
      have h2 := HTX.out
      simp only [if_true] at h1 h2
      subst h1 h2
      have CT5' := Lib.hid (CT5.out (by first | rfl | trivial))
      have CW5' := Lib.hid (CW5.out (by first | rfl | trivial))
      have his := HIS.out (by first | rfl | trivial)
      have CSM : Hid (∀ v u w', ItemV w' 0 w'.heap.size T v → ItemV w' 0 w'.heap.size T u → Calls Tryd.prog 26 #[v, u] w' fun e w1 => e = .returned (.bool true) ∧ Below w'.heap.size w' w1) := Lib.hid (fun v u w' hv hu => by
        have c := RefSame.refSame_any 100 T T v u w' (by omega) hv hu (by omega) (by omega)
        rw [same_self] at c
        exact c)
      have CAI := Lib.hid (fun v w' (hv : ItemV w' 0 w'.heap.size T v) => As03.as_any T v w'.heap.size 9 w' hv (Nat.le_refl _) (by omega) (by omega) (by omega))
      clear his HIS CT5 CW5 HEW HTX
      have HBd := Lib.hid (Below.refl w15.heap.size w15).drew
      have KK := Lib.hid (fun (W' : World) (h : Below w15.heap.size w15 W') => And.intro (cells7 (HA15.out.next h)) (cell4 (HU15.out.next h)))
      have hAl2 := Lib.hid (fun (W' : World) (h : Below w15.heap.size w15 W') => hAl.out W' (below_next HB15.out HB15.out.size h))
      obtain ⟨⟨a0, a1, a2, a3, a4, a5, a6⟩, i0, i1, i2, i3⟩ := KK.out w15 (Below.refl _ _)
      go_wp2_with fail
      go_region_held3 (fun w' => (w'.cell? ⟨w4.heap.size, 0, none⟩ = some (.bool xi) ∧ w'.cell? ⟨w4.heap.size, 1, none⟩ = some (.int .u64 xn) ∧ w'.cell? ⟨w4.heap.size, 2, none⟩ = some (.int .u64 xs) ∧ w'.cell? ⟨w4.heap.size, 3, none⟩ = some (.string xh) ∧ w'.cell? ⟨w4.heap.size, 4, none⟩ = some (.string xd) ∧ w'.cell? ⟨w4.heap.size, 5, none⟩ = some (.int .u64 xt) ∧ w'.cell? ⟨w4.heap.size, 6, none⟩ = some (.int .u64 xq)) ∧ (w'.cell? ⟨w6.heap.size, 0, none⟩ = some (.int .i64 kb) ∧ w'.cell? ⟨w6.heap.size, 1, none⟩ = some (.int .u64 nb) ∧ w'.cell? ⟨w6.heap.size, 2, none⟩ = some (.slice Ab lb cb) ∧ w'.cell? ⟨w6.heap.size, 3, none⟩ = some (.slice Ab' lb' cb')))
        (first | with_reducible exact KK.out _ HBd.out | with_reducible exact KK.out _ HBA.out | with_reducible exact KK.out _ HBB.out | with_reducible exact KK.out _ HBC.out | with_reducible exact KK.out _ HBD.out | with_reducible exact KK.out _ HBF.out | fail)
        (first | (go_at_call 26; (with_reducible refine (CSM.out _ _ _ HIE.out HIF.out).mono ?_); rintro e wF ⟨rfl, hbF⟩; have HBF := Lib.hid (below_next HBD.out HBD.out.size hbF); clear hbF) | (go_at_call 27; (with_reducible refine (CW5'.out wC).mono ?_); rintro e wD ⟨vd, rfl, HID, hbD⟩; have HIE := Lib.hid ((HIC.out.below hbD).more (Nat.le_refl _) hbD.size); have HIF := Lib.hid (HID.out.more (Nat.zero_le _) (Nat.le_refl _)); have HBD := Lib.hid (below_next HBC.out HBC.out.size hbD); clear hbD) | (go_at_call 20; (with_reducible refine (CAI.out _ wB HIB.out).mono ?_); rintro e wC ⟨vc, rfl, HIC, hbC⟩; have HBC := Lib.hid (below_next HBB.out HBB.out.size hbC); clear hbC) | (go_at_call 25; (with_reducible refine (CT5'.out wA).mono ?_); rintro e wB ⟨rfl, hbB⟩; have HBB := Lib.hid (below_next HBA.out HBA.out.size hbB); have HIB := Lib.hid ((HI15.out.below HBB.out).more (Nat.le_refl _) HBB.out.size); clear hbB) | (go_at_call 14; (with_reducible refine (hAl2.out _ HBd.out).mono ?_); rintro e wA ⟨rfl, -, hbA⟩; have HBA := Lib.hid (below_next HBd.out HBd.out.size hbA); clear hbA) | fail)
      have HF := Lib.hid (below_next HB15.out HB15.out.size HBF.out)
      clear KK hAl2 HBd HBA HBB HBC HBD HBF HIB HIC HID HIE HIF
      go_wp2_with fail
      go_ret
      exact ⟨rfl, HBE.out _ HF.out⟩
  · subst e1 e2
    clear HIR
    refine wp_region_held_drew (S := (fun w' => C7 w' w.heap.size ⟨⟨xi, xn, xs, xh, xd⟩, xt, xq⟩ ∧ C7 w' (w.heap.size + 1) ⟨⟨yi, yn, ys, yh, yd⟩, yt, yq⟩ ∧ C7 w' w4.heap.size ⟨⟨xi, xn, xs, xh, xd⟩, xt, xq⟩ ∧ C7 w' w9.heap.size ⟨⟨bi, bn, bs, bh, bd⟩, bt, bq⟩ ∧ C7 w' w12.heap.size ⟨⟨bi, bn, bs, bh, bd⟩, bt, bq⟩)) (by kernel_rfl) (KC.out _ HBd.out) (fun hHeld => ?_)
    first
    | (refine wpAnyH_take (i := 0) (oi := ({ dst := some 51, op := Op.load 26 (Operand.tmp 3), type := 26, pos := "law.go:55", after := #[], guard := none })) (v := ?_) rfl (by kernel_rfl) (by kernel_rfl) (by kernel_rfl) (fun _ _ _ h => h) (Or.inl ⟨by rfl, ?_⟩) hHeld ?_
       rotate_left
       · intro w hSw
         (try dsimp only at hSw)
         go_simp
         try with_reducible rfl
       try simp only [Act.put, List.setIfInBounds_toArray, List.set_cons_zero, List.set_cons_succ])
    | fail
    first
    | (refine wpAnyH_take (i := 2) (oi := ({ dst := some 53, op := Op.load 36 (Operand.tmp 7), type := 36, pos := "law.go:55", after := #[], guard := none })) (v := ?_) rfl (by kernel_rfl) (by kernel_rfl) (by kernel_rfl) (fun _ _ _ h => h) (Or.inl ⟨by rfl, ?_⟩) hHeld ?_
       rotate_left
       · intro w hSw
         (try dsimp only at hSw)
         go_simp
         try with_reducible rfl
       try simp only [Act.put, List.setIfInBounds_toArray, List.set_cons_zero, List.set_cons_succ])
    | fail
    refine wpAnyH_ready (rs := [1]) (by kernel_rfl) (by simp) ?_
    refine AllReadyH.cons (o := ({ dst := some 52, op := Op.call { callee := Callee.value (Operand.func 21), args := #[Operand.tmp 51], argTypes := #[26] }, type := 4, pos := "law.go:55", after := #[{ on := 0, ground := Ground.data }], guard := none })) rfl (fun K hK => ?_) AllReadyH.nil
    go_simp
    refine (CRx.out _).mono ?_
    rintro e wA ⟨rfl, hbA⟩
    have HBA := Lib.hid (below_next HBd.out HBd.out.size hbA)
    clear hbA
    refine hK.out _ _ ?_ (fun hHeld2 => ?_)
    · (try dsimp only)
      exact KC.out _ HBA.out
    clear hK K hHeld
    rename _ => hHeld
    try simp only [Act.put, List.setIfInBounds_toArray, List.set_cons_zero, List.set_cons_succ]
    refine wpAnyH_ready (rs := [3]) (by kernel_rfl) (by simp) ?_
    refine AllReadyH.cons (o := ({ dst := some 54, op := Op.call { callee := Callee.value (Operand.func 22), args := #[Operand.tmp 53], argTypes := #[36] }, type := 4, pos := "law.go:55", after := #[{ on := 2, ground := Ground.data }, { on := 1, ground := Ground.chain }], guard := none })) rfl (fun K hK => ?_) AllReadyH.nil
    go_simp
    refine (CRa.out _).mono ?_
    rintro e wB ⟨rfl, hbB⟩
    have HBB := Lib.hid (below_next HBA.out HBA.out.size hbB)
    clear hbB
    refine hK.out _ _ ?_ (fun hHeld2 => ?_)
    · (try dsimp only)
      exact KC.out _ HBB.out
    clear hK K hHeld
    rename _ => hHeld
    try simp only [Act.put, List.setIfInBounds_toArray, List.set_cons_zero, List.set_cons_succ]
    first
    | (refine wpAnyH_take (i := 4) (oi := ({ dst := some 55, op := Op.binOp BinOp.neq 4 (Operand.tmp 52) (Operand.tmp 54) 4, type := 4, pos := "law.go:55", after := #[{ on := 1, ground := Ground.data }, { on := 3, ground := Ground.data }], guard := none })) (v := ?_) rfl (by kernel_rfl) (by kernel_rfl) (by kernel_rfl) (fun _ _ _ h => h) (Or.inl ⟨by rfl, ?_⟩) hHeld ?_
       rotate_left
       · intro w hSw
         (try dsimp only at hSw)
         go_simp
         try with_reducible rfl
       try simp only [Act.put, List.setIfInBounds_toArray, List.set_cons_zero, List.set_cons_succ])
    | fail
    first
    | (refine wpAnyH_take (i := 5) (oi := ({ dst := some 56, op := Op.move (Operand.tmp 55), type := 4, pos := "law.go:55", after := #[{ on := 4, ground := Ground.data }, { on := 3, ground := Ground.chain }], guard := none })) (v := ?_) rfl (by kernel_rfl) (by kernel_rfl) (by kernel_rfl) (fun _ _ _ h => h) (Or.inl ⟨by rfl, ?_⟩) hHeld ?_
       rotate_left
       · intro w hSw
         (try dsimp only at hSw)
         go_simp
         try with_reducible rfl
       try simp only [Act.put, List.setIfInBounds_toArray, List.set_cons_zero, List.set_cons_succ])
    | fail
    first
    | (refine wpAnyH_take (i := 6) (oi := ({ dst := some 57, op := Op.load 26 (Operand.tmp 3), type := 26, pos := "law.go:55", after := #[{ on := 5, ground := Ground.guard }], guard := some (5, false) })) (v := ?_) rfl (by kernel_rfl) (by kernel_rfl) (by kernel_rfl) (fun _ _ _ h => h) (Or.inl ⟨by rfl, ?_⟩) hHeld ?_
       rotate_left
       · intro w hSw
         (try dsimp only at hSw)
         go_simp
         try with_reducible rfl
       try simp only [Act.put, List.setIfInBounds_toArray, List.set_cons_zero, List.set_cons_succ])
    | fail
    first
    | (refine wpAnyH_take (i := 7) (oi := ({ dst := some 58, op := Op.load 26 (Operand.tmp 4), type := 26, pos := "law.go:55", after := #[{ on := 5, ground := Ground.guard }], guard := some (5, false) })) (v := ?_) rfl (by kernel_rfl) (by kernel_rfl) (by kernel_rfl) (fun _ _ _ h => h) (Or.inl ⟨by rfl, ?_⟩) hHeld ?_
       rotate_left
       · intro w hSw
         (try dsimp only at hSw)
         go_simp
         try with_reducible rfl
       try simp only [Act.put, List.setIfInBounds_toArray, List.set_cons_zero, List.set_cons_succ])
    | fail
    first
    | (refine wpAnyH_take (i := 9) (oi := ({ dst := some 60, op := Op.load 36 (Operand.tmp 7), type := 36, pos := "law.go:55", after := #[{ on := 5, ground := Ground.guard }], guard := some (5, false) })) (v := ?_) rfl (by kernel_rfl) (by kernel_rfl) (by kernel_rfl) (fun _ _ _ h => h) (Or.inl ⟨by rfl, ?_⟩) hHeld ?_
       rotate_left
       · intro w hSw
         (try dsimp only at hSw)
         go_simp
         try with_reducible rfl
       try simp only [Act.put, List.setIfInBounds_toArray, List.set_cons_zero, List.set_cons_succ])
    | fail
    first
    | (refine wpAnyH_take (i := 10) (oi := ({ dst := some 61, op := Op.load 26 (Operand.tmp 4), type := 26, pos := "law.go:55", after := #[{ on := 5, ground := Ground.guard }], guard := some (5, false) })) (v := ?_) rfl (by kernel_rfl) (by kernel_rfl) (by kernel_rfl) (fun _ _ _ h => h) (Or.inl ⟨by rfl, ?_⟩) hHeld ?_
       rotate_left
       · intro w hSw
         (try dsimp only at hSw)
         go_simp
         try with_reducible rfl
       try simp only [Act.put, List.setIfInBounds_toArray, List.set_cons_zero, List.set_cons_succ])
    | fail
    refine wpAnyH_ready (rs := [8]) (by kernel_rfl) (by simp) ?_
    refine AllReadyH.cons (o := ({ dst := some 59, op := Op.call { callee := Callee.value (Operand.func 23), args := #[Operand.tmp 57, Operand.tmp 58], argTypes := #[26, 26] }, type := 4, pos := "law.go:55", after := #[{ on := 6, ground := Ground.data }, { on := 7, ground := Ground.data }, { on := 5, ground := Ground.chain }, { on := 5, ground := Ground.guard }], guard := some (5, false) })) rfl (fun K hK => ?_) AllReadyH.nil
    go_simp
    refine (CXY.out _).mono ?_
    rintro e wC ⟨rfl, hbC⟩
    have HBC := Lib.hid (below_next HBB.out HBB.out.size hbC)
    clear hbC
    refine hK.out _ _ ?_ (fun hHeld2 => ?_)
    · (try dsimp only)
      exact KC.out _ HBC.out
    clear hK K hHeld
    rename _ => hHeld
    try simp only [Act.put, List.setIfInBounds_toArray, List.set_cons_zero, List.set_cons_succ]
    refine wpAnyH_ready (rs := [11]) (by kernel_rfl) (by simp) ?_
    refine AllReadyH.cons (o := ({ dst := some 62, op := Op.call { callee := Callee.value (Operand.func 15), args := #[Operand.tmp 61], argTypes := #[26] }, type := 36, pos := "law.go:55", after := #[{ on := 10, ground := Ground.data }, { on := 8, ground := Ground.chain }, { on := 5, ground := Ground.guard }], guard := some (5, false) })) rfl (fun K hK => ?_) AllReadyH.nil
    go_simp
    refine (CAy.out _).mono ?_
    rintro e wD ⟨rfl, hbD⟩
    have HBD := Lib.hid (below_next HBC.out HBC.out.size hbD)
    clear hbD
    refine hK.out _ _ ?_ (fun hHeld2 => ?_)
    · (try dsimp only)
      exact KC.out _ HBD.out
    clear hK K hHeld
    rename _ => hHeld
    try simp only [Act.put, List.setIfInBounds_toArray, List.set_cons_zero, List.set_cons_succ]
    refine wpAnyH_ready (rs := [12]) (by kernel_rfl) (by simp) ?_
    refine AllReadyH.cons (o := ({ dst := some 63, op := Op.call { callee := Callee.value (Operand.func 24), args := #[Operand.tmp 60, Operand.tmp 62], argTypes := #[36, 36] }, type := 4, pos := "law.go:55", after := #[{ on := 9, ground := Ground.data }, { on := 11, ground := Ground.data }, { on := 11, ground := Ground.chain }, { on := 5, ground := Ground.guard }], guard := some (5, false) })) rfl (fun K hK => ?_) AllReadyH.nil
    go_simp
    refine (CXYr.out _).mono ?_
    rintro e wE ⟨rfl, hbE⟩
    have HBF := Lib.hid (below_next HBD.out HBD.out.size hbE)
    clear hbE
    refine hK.out _ _ ?_ (fun hHeld2 => ?_)
    · (try dsimp only)
      exact KC.out _ HBF.out
    clear hK K hHeld
    rename _ => hHeld
    try simp only [Act.put, List.setIfInBounds_toArray, List.set_cons_zero, List.set_cons_succ]
    first
    | (refine wpAnyH_take (i := 13) (oi := ({ dst := some 64, op := Op.binOp BinOp.neq 4 (Operand.tmp 59) (Operand.tmp 63) 4, type := 4, pos := "law.go:55", after := #[{ on := 8, ground := Ground.data }, { on := 12, ground := Ground.data }, { on := 5, ground := Ground.guard }], guard := some (5, false) })) (v := ?_) rfl (by kernel_rfl) (by kernel_rfl) (by kernel_rfl) (fun _ _ _ h => h) (Or.inl ⟨by rfl, ?_⟩) hHeld ?_
       rotate_left
       · intro w hSw
         (try dsimp only at hSw)
         go_simp
         try with_reducible rfl
       try simp only [Act.put, List.setIfInBounds_toArray, List.set_cons_zero, List.set_cons_succ])
    | fail
    first
    | (refine wpAnyH_take (i := 14) (oi := ({ dst := some 65, op := Op.pick (Operand.tmp 56) (Operand.const (Value.bool true)) (Operand.tmp 64), type := 4, pos := "law.go:55", after := #[{ on := 5, ground := Ground.data }, { on := 13, ground := Ground.data }], guard := none })) (v := ?_) rfl (by kernel_rfl) (by kernel_rfl) (by kernel_rfl) (fun _ _ _ h => h) (Or.inl ⟨by rfl, ?_⟩) hHeld ?_
       rotate_left
       · intro w hSw
         (try dsimp only at hSw)
         go_simp
         try with_reducible rfl
       try simp only [Act.put, List.setIfInBounds_toArray, List.set_cons_zero, List.set_cons_succ])
    | fail
    first
    | (refine wpAnyH_take (i := 15) (oi := ({ dst := some 66, op := Op.move (Operand.tmp 65), type := 4, pos := "law.go:55", after := #[{ on := 14, ground := Ground.data }, { on := 12, ground := Ground.chain }], guard := none })) (v := ?_) rfl (by kernel_rfl) (by kernel_rfl) (by kernel_rfl) (fun _ _ _ h => h) (Or.inl ⟨by rfl, ?_⟩) hHeld ?_
       rotate_left
       · intro w hSw
         (try dsimp only at hSw)
         go_simp
         try with_reducible rfl
       try simp only [Act.put, List.setIfInBounds_toArray, List.set_cons_zero, List.set_cons_succ])
    | fail
    first
    | (refine wpAnyH_take (i := 16) (oi := ({ dst := some 67, op := Op.load 26 (Operand.tmp 12), type := 26, pos := "law.go:55", after := #[{ on := 15, ground := Ground.guard }], guard := some (15, false) })) (v := ?_) rfl (by kernel_rfl) (by kernel_rfl) (by kernel_rfl) (fun _ _ _ h => h) (Or.inl ⟨by rfl, ?_⟩) hHeld ?_
       rotate_left
       · intro w hSw
         (try dsimp only at hSw)
         go_simp
         try with_reducible rfl
       try simp only [Act.put, List.setIfInBounds_toArray, List.set_cons_zero, List.set_cons_succ])
    | fail
    first
    | (refine wpAnyH_take (i := 18) (oi := ({ dst := some 69, op := Op.load 36 (Operand.tmp 14), type := 36, pos := "law.go:55", after := #[{ on := 15, ground := Ground.guard }], guard := some (15, false) })) (v := ?_) rfl (by kernel_rfl) (by kernel_rfl) (by kernel_rfl) (fun _ _ _ h => h) (Or.inl ⟨by rfl, ?_⟩) hHeld ?_
       rotate_left
       · intro w hSw
         (try dsimp only at hSw)
         go_simp
         try with_reducible rfl
       try simp only [Act.put, List.setIfInBounds_toArray, List.set_cons_zero, List.set_cons_succ])
    | fail
    refine wpAnyH_ready (rs := [17]) (by kernel_rfl) (by simp) ?_
    refine AllReadyH.cons (o := ({ dst := some 68, op := Op.call { callee := Callee.value (Operand.func 15), args := #[Operand.tmp 67], argTypes := #[26] }, type := 36, pos := "law.go:55", after := #[{ on := 16, ground := Ground.data }, { on := 15, ground := Ground.chain }, { on := 15, ground := Ground.guard }], guard := some (15, false) })) rfl (fun K hK => ?_) AllReadyH.nil
    go_simp
    refine (CAb.out _).mono ?_
    rintro e wF ⟨rfl, hbF⟩
    have HBG := Lib.hid (below_next HBF.out HBF.out.size hbF)
    clear hbF
    refine hK.out _ _ ?_ (fun hHeld2 => ?_)
    · (try dsimp only)
      exact KC.out _ HBG.out
    clear hK K hHeld
    rename _ => hHeld
    try simp only [Act.put, List.setIfInBounds_toArray, List.set_cons_zero, List.set_cons_succ]
    first
    | (refine wpAnyH_take (i := 19) (oi := ({ dst := some 70, op := Op.binOp BinOp.neq 36 (Operand.tmp 68) (Operand.tmp 69) 36, type := 4, pos := "law.go:55", after := #[{ on := 17, ground := Ground.data }, { on := 18, ground := Ground.data }, { on := 15, ground := Ground.guard }], guard := some (15, false) })) (v := ?_) rfl (by kernel_rfl) (by kernel_rfl) (by kernel_rfl) (fun _ _ _ h => h) (Or.inl ⟨by rfl, ?_⟩) hHeld ?_
       rotate_left
       · intro w hSw
         (try dsimp only at hSw)
         go_simp
         try with_reducible rfl
       try simp only [Act.put, List.setIfInBounds_toArray, List.set_cons_zero, List.set_cons_succ])
    | fail
    first
    | (refine wpAnyH_take (i := 20) (oi := ({ dst := some 71, op := Op.pick (Operand.tmp 66) (Operand.const (Value.bool true)) (Operand.tmp 70), type := 4, pos := "law.go:55", after := #[{ on := 15, ground := Ground.data }, { on := 19, ground := Ground.data }], guard := none })) (v := ?_) rfl (by kernel_rfl) (by kernel_rfl) (by kernel_rfl) (fun _ _ _ h => h) (Or.inl ⟨by rfl, ?_⟩) hHeld ?_
       rotate_left
       · intro w hSw
         (try dsimp only at hSw)
         go_simp
         try with_reducible rfl
       try simp only [Act.put, List.setIfInBounds_toArray, List.set_cons_zero, List.set_cons_succ])
    | fail
    first
    | (refine wpAnyH_take (i := 21) (oi := ({ dst := some 72, op := Op.move (Operand.tmp 71), type := 4, pos := "law.go:55", after := #[{ on := 20, ground := Ground.data }, { on := 17, ground := Ground.chain }], guard := none })) (v := ?_) rfl (by kernel_rfl) (by kernel_rfl) (by kernel_rfl) (fun _ _ _ h => h) (Or.inl ⟨by rfl, ?_⟩) hHeld ?_
       rotate_left
       · intro w hSw
         (try dsimp only at hSw)
         go_simp
         try with_reducible rfl
       try simp only [Act.put, List.setIfInBounds_toArray, List.set_cons_zero, List.set_cons_succ])
    | fail
    first
    | (refine wpAnyH_take (i := 22) (oi := ({ dst := some 73, op := Op.move (Operand.tmp 13), type := 38, pos := "law.go:55", after := #[{ on := 21, ground := Ground.guard }], guard := some (21, false) })) (v := ?_) rfl (by kernel_rfl) (by kernel_rfl) (by kernel_rfl) (fun _ _ _ h => h) (Or.inl ⟨by rfl, ?_⟩) hHeld ?_
       rotate_left
       · intro w hSw
         (try dsimp only at hSw)
         go_simp
         try with_reducible rfl
       try simp only [Act.put, List.setIfInBounds_toArray, List.set_cons_zero, List.set_cons_succ])
    | fail
    first
    | (refine wpAnyH_take (i := 23) (oi := ({ dst := some 74, op := Op.binOp BinOp.eql 38 (Operand.tmp 73) (Operand.const (Value.int IntKind.i64 0)) 38, type := 4, pos := "law.go:55", after := #[{ on := 22, ground := Ground.data }, { on := 21, ground := Ground.guard }], guard := some (21, false) })) (v := ?_) rfl (by kernel_rfl) (by kernel_rfl) (by kernel_rfl) (fun _ _ _ h => h) (Or.inl ⟨by rfl, ?_⟩) hHeld ?_
       rotate_left
       · intro w hSw
         (try dsimp only at hSw)
         go_simp
         try with_reducible rfl
       try simp only [Act.put, List.setIfInBounds_toArray, List.set_cons_zero, List.set_cons_succ])
    | fail
    first
    | (refine wpAnyH_take (i := 24) (oi := ({ dst := some 75, op := Op.move (Operand.tmp 15), type := 4, pos := "law.go:55", after := #[{ on := 21, ground := Ground.guard }], guard := some (21, false) })) (v := ?_) rfl (by kernel_rfl) (by kernel_rfl) (by kernel_rfl) (fun _ _ _ h => h) (Or.inl ⟨by rfl, ?_⟩) hHeld ?_
       rotate_left
       · intro w hSw
         (try dsimp only at hSw)
         go_simp
         try with_reducible rfl
       try simp only [Act.put, List.setIfInBounds_toArray, List.set_cons_zero, List.set_cons_succ])
    | fail
    first
    | (refine wpAnyH_take (i := 25) (oi := ({ dst := some 76, op := Op.binOp BinOp.neq 4 (Operand.tmp 74) (Operand.tmp 75) 4, type := 4, pos := "law.go:55", after := #[{ on := 23, ground := Ground.data }, { on := 24, ground := Ground.data }, { on := 21, ground := Ground.guard }], guard := some (21, false) })) (v := ?_) rfl (by kernel_rfl) (by kernel_rfl) (by kernel_rfl) (fun _ _ _ h => h) (Or.inl ⟨by rfl, ?_⟩) hHeld ?_
       rotate_left
       · intro w hSw
         (try dsimp only at hSw)
         go_simp
         try with_reducible rfl
       try simp only [Act.put, List.setIfInBounds_toArray, List.set_cons_zero, List.set_cons_succ])
    | fail
    first
    | (refine wpAnyH_take (i := 26) (oi := ({ dst := some 77, op := Op.pick (Operand.tmp 72) (Operand.const (Value.bool true)) (Operand.tmp 76), type := 4, pos := "law.go:55", after := #[{ on := 21, ground := Ground.data }, { on := 25, ground := Ground.data }], guard := none })) (v := ?_) rfl (by kernel_rfl) (by kernel_rfl) (by kernel_rfl) (fun _ _ _ h => h) (Or.inl ⟨by rfl, ?_⟩) hHeld ?_
       rotate_left
       · intro w hSw
         (try dsimp only at hSw)
         go_simp
         try with_reducible rfl
       try simp only [Act.put, List.setIfInBounds_toArray, List.set_cons_zero, List.set_cons_succ])
    | fail
    first
    | (refine wpAnyH_take (i := 27) (oi := ({ dst := some 78, op := Op.move (Operand.tmp 77), type := 4, pos := "law.go:55", after := #[{ on := 26, ground := Ground.data }, { on := 21, ground := Ground.chain }], guard := none })) (v := ?_) rfl (by kernel_rfl) (by kernel_rfl) (by kernel_rfl) (fun _ _ _ h => h) (Or.inl ⟨by rfl, ?_⟩) hHeld ?_
       rotate_left
       · intro w hSw
         (try dsimp only at hSw)
         go_simp
         try with_reducible rfl
       try simp only [Act.put, List.setIfInBounds_toArray, List.set_cons_zero, List.set_cons_succ])
    | fail
    first
    | (refine wpAnyH_take (i := 28) (oi := ({ dst := some 79, op := Op.move (Operand.tmp 15), type := 4, pos := "law.go:55", after := #[{ on := 27, ground := Ground.guard }], guard := some (27, false) })) (v := ?_) rfl (by kernel_rfl) (by kernel_rfl) (by kernel_rfl) (fun _ _ _ h => h) (Or.inl ⟨by rfl, ?_⟩) hHeld ?_
       rotate_left
       · intro w hSw
         (try dsimp only at hSw)
         go_simp
         try with_reducible rfl
       try simp only [Act.put, List.setIfInBounds_toArray, List.set_cons_zero, List.set_cons_succ])
    | fail
    first
    | (refine wpAnyH_take (i := 29) (oi := ({ dst := some 80, op := Op.unOp UnOp.not 4 (Operand.tmp 79), type := 4, pos := "law.go:55", after := #[{ on := 28, ground := Ground.data }, { on := 27, ground := Ground.guard }], guard := some (27, false) })) (v := ?_) rfl (by kernel_rfl) (by kernel_rfl) (by kernel_rfl) (fun _ _ _ h => h) (Or.inl ⟨by rfl, ?_⟩) hHeld ?_
       rotate_left
       · intro w hSw
         (try dsimp only at hSw)
         go_simp
         try with_reducible rfl
       try simp only [Act.put, List.setIfInBounds_toArray, List.set_cons_zero, List.set_cons_succ])
    | fail
    first
    | (refine wpAnyH_take (i := 30) (oi := ({ dst := some 81, op := Op.move (Operand.tmp 80), type := 4, pos := "law.go:55", after := #[{ on := 29, ground := Ground.data }, { on := 27, ground := Ground.chain }, { on := 27, ground := Ground.guard }], guard := some (27, false) })) (v := ?_) rfl (by kernel_rfl) (by kernel_rfl) (by kernel_rfl) (fun _ _ _ h => h) (Or.inl ⟨by rfl, ?_⟩) hHeld ?_
       rotate_left
       · intro w hSw
         (try dsimp only at hSw)
         go_simp
         try with_reducible rfl
       try simp only [Act.put, List.setIfInBounds_toArray, List.set_cons_zero, List.set_cons_succ])
    | fail
    first
    | (refine wpAnyH_take (i := 31) (oi := ({ dst := some 82, op := Op.move (Operand.tmp 13), type := 38, pos := "law.go:55", after := #[{ on := 30, ground := Ground.guard }], guard := some (30, true) })) (v := undef) rfl (by kernel_rfl) (by kernel_rfl) (by kernel_rfl) (fun _ _ _ h => h) (Or.inr ⟨by rfl, rfl⟩) hHeld ?_
       try simp only [Act.put, List.setIfInBounds_toArray, List.set_cons_zero, List.set_cons_succ])
    | fail
    first
    | (refine wpAnyH_take (i := 32) (oi := ({ dst := some 83, op := Op.binOp BinOp.neq 38 (Operand.tmp 82) (Operand.const (Value.int IntKind.i64 3)) 38, type := 4, pos := "law.go:55", after := #[{ on := 31, ground := Ground.data }, { on := 30, ground := Ground.guard }], guard := some (30, true) })) (v := undef) rfl (by kernel_rfl) (by kernel_rfl) (by kernel_rfl) (fun _ _ _ h => h) (Or.inr ⟨by rfl, rfl⟩) hHeld ?_
       try simp only [Act.put, List.setIfInBounds_toArray, List.set_cons_zero, List.set_cons_succ])
    | fail
    first
    | (refine wpAnyH_take (i := 33) (oi := ({ dst := some 84, op := Op.pick (Operand.tmp 81) (Operand.tmp 83) (Operand.const (Value.bool false)), type := 4, pos := "law.go:55", after := #[{ on := 30, ground := Ground.data }, { on := 32, ground := Ground.data }, { on := 27, ground := Ground.guard }], guard := some (27, false) })) (v := ?_) rfl (by kernel_rfl) (by kernel_rfl) (by kernel_rfl) (fun _ _ _ h => h) (Or.inl ⟨by rfl, ?_⟩) hHeld ?_
       rotate_left
       · intro w hSw
         (try dsimp only at hSw)
         go_simp
         try with_reducible rfl
       try simp only [Act.put, List.setIfInBounds_toArray, List.set_cons_zero, List.set_cons_succ])
    | fail
    first
    | (refine wpAnyH_take (i := 34) (oi := ({ dst := some 85, op := Op.pick (Operand.tmp 78) (Operand.const (Value.bool true)) (Operand.tmp 84), type := 4, pos := "law.go:55", after := #[{ on := 27, ground := Ground.data }, { on := 33, ground := Ground.data }], guard := none })) (v := ?_) rfl (by kernel_rfl) (by kernel_rfl) (by kernel_rfl) (fun _ _ _ h => h) (Or.inl ⟨by rfl, ?_⟩) hHeld ?_
       rotate_left
       · intro w hSw
         (try dsimp only at hSw)
         go_simp
         try with_reducible rfl
       try simp only [Act.put, List.setIfInBounds_toArray, List.set_cons_zero, List.set_cons_succ])
    | fail
    refine wpAnyH_done (by kernel_rfl) ?_ _
    have HB14 := Lib.hid (below_next HB13.out HB13.out.size HBG.out)
    have HI14 := Lib.hid ((HI13.out.below HBG.out).more (Nat.le_refl _) HBG.out.size)
    have HU14 := Lib.hid (HU13.out.next HBG.out)
    have HA14 := Lib.hid (HA13.out.next HBG.out)
    clear KC HBd HBA HBB HBC HBD HBF HBG HB13 HI13 HU13 HA13 HP13 HQ13 heq HEQ CRx CXY CXYr CAy CAb
    go_upto_region 10 with (fail)
    obtain ⟨a0, a1, a2, a3, a4, a5, a6⟩ := cells7 HA14.out
    go_wp2_with fail
    refine (CRa.out _).mono ?_
    rintro e w15 ⟨rfl, hb15⟩
    have HB15 := Lib.hid (below_next HB14.out HB14.out.size hb15)
    have HI15 := Lib.hid ((HI14.out.below hb15).more (Nat.le_refl _) hb15.size)
    have HU15 := Lib.hid (HU14.out.next hb15)
    have HA15 := Lib.hid (HA14.out.next hb15)
    clear hb15 HB14 HI14 HU14 HA14 a0 a1 a2 a3 a4 a5 a6 CRa
    cases r
    · simp only [Bool.false_eq_true, if_false] at HI15
      have h1 := HEW.out
      have h2 := HTX.out
      simp only [Bool.false_eq_true, if_false] at h1 h2
      subst h1 h2
      obtain ⟨_, _, _, _, hv, -⟩ := HI15.out.open_
      have hlb : lb' = 0 := by
        have h3 := congrArg (fun v => match v with | Value.agg c => c.toList | _ => []) hv
        simp [Itm.sub] at h3
        exact h3.2.2.2.2.1
      subst hlb
      clear hv HI15 HA15 CT5 CW5 HIS HEW HTX
      go_wp2_with fail
      refine (hAl.out _ HB15.out).mono ?_
      rintro e w16 ⟨rfl, hb16, hbb⟩
      have HB16 := Lib.hid hb16
      obtain ⟨i0, i1, i2, i3⟩ := cell4 (HU15.out.next hbb)
      clear hb16 hbb HB15 HU15
      go_wp2_with fail
      go_ret
      exact ⟨rfl, HBE.out _ HB16.out⟩
    · simp only [if_true] at HI15
      have h1 := HEW.out
      have h2 := HTX.out
      simp only [if_true] at h1 h2
      subst h1 h2
      have CT5' := Lib.hid (CT5.out (by first | rfl | trivial))
      have CW5' := Lib.hid (CW5.out (by first | rfl | trivial))
      have his := HIS.out (by first | rfl | trivial)
      have CSM : Hid (∀ v u w', ItemV w' 0 w'.heap.size T v → ItemV w' 0 w'.heap.size T u → Calls Tryd.prog 26 #[v, u] w' fun e w1 => e = .returned (.bool true) ∧ Below w'.heap.size w' w1) := Lib.hid (fun v u w' hv hu => by
        have c := RefSame.refSame_any 100 T T v u w' (by omega) hv hu (by omega) (by omega)
        rw [same_self] at c
        exact c)
      have CAI := Lib.hid (fun v w' (hv : ItemV w' 0 w'.heap.size T v) => As03.as_any T v w'.heap.size 9 w' hv (Nat.le_refl _) (by omega) (by omega) (by omega))
      clear his HIS CT5 CW5 HEW HTX
      have HBd := Lib.hid (Below.refl w15.heap.size w15).drew
      have KK := Lib.hid (fun (W' : World) (h : Below w15.heap.size w15 W') => And.intro (cells7 (HA15.out.next h)) (cell4 (HU15.out.next h)))
      have hAl2 := Lib.hid (fun (W' : World) (h : Below w15.heap.size w15 W') => hAl.out W' (below_next HB15.out HB15.out.size h))
      obtain ⟨⟨a0, a1, a2, a3, a4, a5, a6⟩, i0, i1, i2, i3⟩ := KK.out w15 (Below.refl _ _)
      go_wp2_with fail
      go_region_held3 (fun w' => (w'.cell? ⟨w4.heap.size, 0, none⟩ = some (.bool xi) ∧ w'.cell? ⟨w4.heap.size, 1, none⟩ = some (.int .u64 xn) ∧ w'.cell? ⟨w4.heap.size, 2, none⟩ = some (.int .u64 xs) ∧ w'.cell? ⟨w4.heap.size, 3, none⟩ = some (.string xh) ∧ w'.cell? ⟨w4.heap.size, 4, none⟩ = some (.string xd) ∧ w'.cell? ⟨w4.heap.size, 5, none⟩ = some (.int .u64 xt) ∧ w'.cell? ⟨w4.heap.size, 6, none⟩ = some (.int .u64 xq)) ∧ (w'.cell? ⟨w6.heap.size, 0, none⟩ = some (.int .i64 kb) ∧ w'.cell? ⟨w6.heap.size, 1, none⟩ = some (.int .u64 nb) ∧ w'.cell? ⟨w6.heap.size, 2, none⟩ = some (.slice Ab lb cb) ∧ w'.cell? ⟨w6.heap.size, 3, none⟩ = some (.slice Ab' lb' cb')))
        (first | with_reducible exact KK.out _ HBd.out | with_reducible exact KK.out _ HBA.out | with_reducible exact KK.out _ HBB.out | with_reducible exact KK.out _ HBC.out | with_reducible exact KK.out _ HBD.out | with_reducible exact KK.out _ HBF.out | fail)
        (first | (go_at_call 26; (with_reducible refine (CSM.out _ _ _ HIE.out HIF.out).mono ?_); rintro e wF ⟨rfl, hbF⟩; have HBF := Lib.hid (below_next HBD.out HBD.out.size hbF); clear hbF) | (go_at_call 27; (with_reducible refine (CW5'.out wC).mono ?_); rintro e wD ⟨vd, rfl, HID, hbD⟩; have HIE := Lib.hid ((HIC.out.below hbD).more (Nat.le_refl _) hbD.size); have HIF := Lib.hid (HID.out.more (Nat.zero_le _) (Nat.le_refl _)); have HBD := Lib.hid (below_next HBC.out HBC.out.size hbD); clear hbD) | (go_at_call 20; (with_reducible refine (CAI.out _ wB HIB.out).mono ?_); rintro e wC ⟨vc, rfl, HIC, hbC⟩; have HBC := Lib.hid (below_next HBB.out HBB.out.size hbC); clear hbC) | (go_at_call 25; (with_reducible refine (CT5'.out wA).mono ?_); rintro e wB ⟨rfl, hbB⟩; have HBB := Lib.hid (below_next HBA.out HBA.out.size hbB); have HIB := Lib.hid ((HI15.out.below HBB.out).more (Nat.le_refl _) HBB.out.size); clear hbB) | (go_at_call 14; (with_reducible refine (hAl2.out _ HBd.out).mono ?_); rintro e wA ⟨rfl, -, hbA⟩; have HBA := Lib.hid (below_next HBd.out HBd.out.size hbA); clear hbA) | fail)
      have HF := Lib.hid (below_next HB15.out HB15.out.size HBF.out)
      clear KK hAl2 HBd HBA HBB HBC HBD HBF HIB HIC HID HIE HIF
      go_wp2_with fail
      go_ret
      exact ⟨rfl, HBE.out _ HF.out⟩
end Go.Proofs.YtbgcbcnidjlhnaaDoor.IdentTells
