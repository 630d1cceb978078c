/- The statement IdentOrder: its walk. -/
import Derived.Test.YtbgcbcnidjlhnaaDoorAlive05
import Derived.Test.YtbgcbcnidjlhnaaDoorIdEq
import Derived.Deep.RegionHeld3
namespace Go.Proofs.YtbgcbcnidjlhnaaDoor.IdentOrder
open Go.RowKit Wd Eid
attribute [local go_sem ↓ high] Eid.run_id

/-- The cells of three numbers. -/
abbrev C7 (w : World) (g : Nat) (x : Eid.Id) : Prop := w.cell? ⟨g, 0, none⟩ = some (.bool x.src.ipn) ∧ w.cell? ⟨g, 1, none⟩ = some (.int .u64 x.src.node) ∧ w.cell? ⟨g, 2, none⟩ = some (.int .u64 x.src.service) ∧ w.cell? ⟨g, 3, none⟩ = some (.string x.src.host) ∧ w.cell? ⟨g, 4, none⟩ = some (.string x.src.demux) ∧ w.cell? ⟨g, 5, none⟩ = some (.int .u64 x.time) ∧ w.cell? ⟨g, 6, none⟩ = some (.int .u64 x.seq)

set_option maxRecDepth 100000 in
set_option maxHeartbeats 8000000 in
theorem walk (x y z : Eid.Id) (w : World) (hx : x.ok) (hy : y.ok) (hz : z.ok) (G : Gl w) : Calls Tryd.prog 7 #[x.val, y.val, z.val] w fun e w' => e = .returned (.bool true) ∧ Below w.heap.size w w' := by
  have CA := Lib.hid (fun w' g => alive05_any w' g)
  have CGx := Lib.hid (fun w' => great05_any x w')
  have CGy := Lib.hid (fun w' => great05_any y w')
  have CGz := Lib.hid (fun w' => great05_any z w')
  have CRx := Lib.hid (fun w' => iright_any x hx w')
  have CRy := Lib.hid (fun w' => iright_any y hy w')
  have CRz := Lib.hid (fun w' => iright_any z hz w')
  have Cxy := Lib.hid (fun w' => iahead_any x y w')
  have Cyx := Lib.hid (fun w' => iahead_any y x w')
  have Cyz := Lib.hid (fun w' => iahead_any y z w')
  have Cxz := Lib.hid (fun w' => iahead_any x z w')
  have Czz := Lib.hid (fun w' => iahead_any z z w')
  have HZZ := Lib.hid (ils_self z)
  have HAB := Lib.hid (ils_both x y)
  have HQ : Hid ((idEq x y = true → ils x y = false ∧ ils y x = false) ∧ (idEq x y = false → (ils x y != ils y x) = true)) := Lib.hid ⟨fun h => by
      obtain rfl := (idEq_iff x y).1 h
      exact ⟨ils_self x, ils_self x⟩, fun h => ils_one x y (fun e => by rw [(idEq_iff x y).2 e] at h; cases h)⟩
  have HT := Lib.hid (ils_trans x y z)
  have HG := Lib.hid G
  clear hx hy hz G
  have HC0 := Lib.hid (fun (W : World) (h : Below (((w.alloc (.cells x.cells 26)).alloc (.cells y.cells 26)).alloc (.cells z.cells 26)).heap.size (((w.alloc (.cells x.cells 26)).alloc (.cells y.cells 26)).alloc (.cells z.cells 26)) W) => show C7 W w.heap.size x ∧ C7 W (w.heap.size + 1) y ∧ C7 W (w.heap.size + 1 + 1) z from by
    have k1 := ((Blk.new w 26 x.cells).alloc (.cells y.cells 26)).alloc (.cells z.cells 26)
    have k2 := (Blk.new (w.alloc (.cells x.cells 26)) 26 y.cells).alloc (.cells z.cells 26)
    have k3 := Blk.new ((w.alloc (.cells x.cells 26)).alloc (.cells y.cells 26)) 26 z.cells
    simp only [World.size_alloc] at k2 k3
    exact ⟨cells7 (k1.next h), cells7 (k2.next h), cells7 (k3.next h)⟩)
  have HB := Lib.hid ((((Below.refl w.heap.size w).alloc (Nat.le_refl _) (.cells x.cells 26)).alloc (by simp) (.cells y.cells 26)).alloc (by simp; omega) (.cells z.cells 26))
  generalize hgx : decide (300 < wrap64 ((x.src.host.size : Int) + x.src.demux.size)) = gx at *
  generalize hgy : decide (300 < wrap64 ((y.src.host.size : Int) + y.src.demux.size)) = gy at *
  generalize hgz : decide (300 < wrap64 ((z.src.host.size : Int) + z.src.demux.size)) = gz at *
  clear hgx hgy hgz
  generalize iright x = rx at *
  generalize iright y = ry at *
  generalize iright z = rz at *
  have HQE := Lib.hid (show idEq x y = idEq x y from rfl)
  generalize ils z z = zz at *
  generalize ils x y = a at *
  generalize ils y x = b at *
  generalize ils y z = c at *
  generalize ils x z = d at *
  generalize hq : idEq x y = q at *
  clear HQE
  have HQE := Lib.hid hq
  clear hq
  have hzz := HZZ.out
  subst hzz
  clear HZZ
  obtain ⟨⟨xi, xn, xs, xh, xd⟩, xt, xq⟩ := x
  obtain ⟨⟨yi, yn, ys, yh, yd⟩, yt, yq⟩ := y
  obtain ⟨⟨zi, zn, zs, zh, zd⟩, zt, zq⟩ := z
  go_enter Tryd.func7, Tryd.ntmps7
  go_upto_region 1 with (fail)
  generalize ((w.alloc (.cells #[.bool xi, .int .u64 xn, .int .u64 xs, .string xh, .string xd, .int .u64 xt, .int .u64 xq] 26)).alloc (.cells #[.bool yi, .int .u64 yn, .int .u64 ys, .string yh, .string yd, .int .u64 yt, .int .u64 yq] 26)).alloc (.cells #[.bool zi, .int .u64 zn, .int .u64 zs, .string zh, .string zd, .int .u64 zt, .int .u64 zq] 26) = W at *
  have HGW := Lib.hid (HG.out.below HB.out)
  have hAl : Hid (∀ W', Below W.heap.size W W' → Calls Tryd.prog 14 #[] W' fun e w1 => e = .returned (.bool true) ∧ Below w.heap.size w w1 ∧ Below W.heap.size W w1) := Lib.hid (fun W' hW => by
    refine (CA.out W' (HGW.out.below hW)).mono ?_
    rintro e w1 ⟨rfl, hb⟩
    exact ⟨rfl, below_next HB.out HB.out.size (below_next hW hW.size hb), below_next hW hW.size hb⟩)
  have hEx : Hid (∀ W', Below W.heap.size W W' → Calls Tryd.prog 14 #[] W' fun e w1 => e = .returned (.bool true) ∧ Below w.heap.size w w1) := Lib.hid (fun W' hW => (hAl.out W' hW).mono fun _ _ h => ⟨h.1, h.2.1⟩)
  clear HG CA
  obtain ⟨⟨x0, x1, x2, x3, x4, x5, x6⟩, ⟨y0, y1, y2, y3, y4, y5, y6⟩, z0, z1, z2, z3, z4, z5, z6⟩ := HC0.out W (Below.refl _ _)
  have EXIT : Hid (∀ W', Below W.heap.size W W' → Below W.heap.size W W') := Lib.hid fun _ h => h
  go_wp2_with fail
  refine (CGx.out W).mono ?_
  rintro e w1 ⟨rfl, hb1⟩
  have HB1 := Lib.hid hb1
  clear hb1 x0 x1 x2 x3 x4 x5 x6 y0 y1 y2 y3 y4 y5 y6 z0 z1 z2 z3 z4 z5 z6
  cases gx
  rotate_left
  · go_wp2_with fail
    refine (hEx.out _ HB1.out).mono ?_
    rintro e w2 ⟨rfl, hb⟩
    have HB2 := Lib.hid hb
    clear hb
    go_wp2_with fail
    go_ret
    exact ⟨rfl, HB2.out⟩
  obtain ⟨⟨x0, x1, x2, x3, x4, x5, x6⟩, ⟨y0, y1, y2, y3, y4, y5, y6⟩, z0, z1, z2, z3, z4, z5, z6⟩ := HC0.out w1 HB1.out
  go_wp2_with fail
  refine (CGy.out w1).mono ?_
  rintro e w2 ⟨rfl, hb⟩
  have HB2 := Lib.hid (below_next HB1.out HB1.out.size hb)
  clear hb x0 x1 x2 x3 x4 x5 x6 y0 y1 y2 y3 y4 y5 y6 z0 z1 z2 z3 z4 z5 z6 HB1
  cases gy
  rotate_left
  · go_wp2_with fail
    refine (hEx.out _ HB2.out).mono ?_
    rintro e we ⟨rfl, hb⟩
    have HBe := Lib.hid hb
    clear hb
    go_wp2_with fail
    go_ret
    exact ⟨rfl, HBe.out⟩
  obtain ⟨⟨x0, x1, x2, x3, x4, x5, x6⟩, ⟨y0, y1, y2, y3, y4, y5, y6⟩, z0, z1, z2, z3, z4, z5, z6⟩ := HC0.out w2 HB2.out
  go_wp2_with fail
  refine (CGz.out w2).mono ?_
  rintro e w3 ⟨rfl, hb⟩
  have HB3 := Lib.hid (below_next HB2.out HB2.out.size hb)
  clear hb x0 x1 x2 x3 x4 x5 x6 y0 y1 y2 y3 y4 y5 y6 z0 z1 z2 z3 z4 z5 z6 HB2
  cases gz
  rotate_left
  · go_wp2_with fail
    refine (hEx.out _ HB3.out).mono ?_
    rintro e we ⟨rfl, hb⟩
    have HBe := Lib.hid hb
    clear hb
    go_wp2_with fail
    go_ret
    exact ⟨rfl, HBe.out⟩
  obtain ⟨⟨x0, x1, x2, x3, x4, x5, x6⟩, ⟨y0, y1, y2, y3, y4, y5, y6⟩, z0, z1, z2, z3, z4, z5, z6⟩ := HC0.out w3 HB3.out
  go_wp2_with fail
  refine (CRx.out w3).mono ?_
  rintro e w4 ⟨rfl, hb⟩
  have HB4 := Lib.hid (below_next HB3.out HB3.out.size hb)
  clear hb x0 x1 x2 x3 x4 x5 x6 y0 y1 y2 y3 y4 y5 y6 z0 z1 z2 z3 z4 z5 z6 HB3
  cases rx
  · go_wp2_with fail
    refine (hEx.out _ HB4.out).mono ?_
    rintro e we ⟨rfl, hb⟩
    have HBe := Lib.hid hb
    clear hb
    go_wp2_with fail
    go_ret
    exact ⟨rfl, HBe.out⟩
  obtain ⟨⟨x0, x1, x2, x3, x4, x5, x6⟩, ⟨y0, y1, y2, y3, y4, y5, y6⟩, z0, z1, z2, z3, z4, z5, z6⟩ := HC0.out w4 HB4.out
  go_wp2_with fail
  refine (CRy.out w4).mono ?_
  rintro e w5 ⟨rfl, hb⟩
  have HB5 := Lib.hid (below_next HB4.out HB4.out.size hb)
  clear hb x0 x1 x2 x3 x4 x5 x6 y0 y1 y2 y3 y4 y5 y6 z0 z1 z2 z3 z4 z5 z6 HB4
  cases ry
  · go_wp2_with fail
    refine (hEx.out _ HB5.out).mono ?_
    rintro e we ⟨rfl, hb⟩
    have HBe := Lib.hid hb
    clear hb
    go_wp2_with fail
    go_ret
    exact ⟨rfl, HBe.out⟩
  obtain ⟨⟨x0, x1, x2, x3, x4, x5, x6⟩, ⟨y0, y1, y2, y3, y4, y5, y6⟩, z0, z1, z2, z3, z4, z5, z6⟩ := HC0.out w5 HB5.out
  go_wp2_with fail
  refine (CRz.out w5).mono ?_
  rintro e w6 ⟨rfl, hb⟩
  have HB6 := Lib.hid (below_next HB5.out HB5.out.size hb)
  clear hb x0 x1 x2 x3 x4 x5 x6 y0 y1 y2 y3 y4 y5 y6 z0 z1 z2 z3 z4 z5 z6 HB5
  cases rz
  · go_wp2_with fail
    refine (hEx.out _ HB6.out).mono ?_
    rintro e we ⟨rfl, hb⟩
    have HBe := Lib.hid hb
    clear hb
    go_wp2_with fail
    go_ret
    exact ⟨rfl, HBe.out⟩
  have KC := Lib.hid (fun (W' : World) (h : Below w6.heap.size w6 W') => HC0.out W' (below_next HB6.out HB6.out.size h))
  have HBd := Lib.hid (Below.refl w6.heap.size w6).drew
  go_wp2_with fail
  go_region_held3 (fun w' => C7 w' w.heap.size ⟨⟨xi, xn, xs, xh, xd⟩, xt, xq⟩ ∧ C7 w' (w.heap.size + 1) ⟨⟨yi, yn, ys, yh, yd⟩, yt, yq⟩ ∧ C7 w' (w.heap.size + 1 + 1) ⟨⟨zi, zn, zs, zh, zd⟩, zt, zq⟩)
    (first | with_reducible exact KC.out _ HBd.out | with_reducible exact KC.out _ HB7.out | with_reducible exact KC.out _ HB8.out | with_reducible exact KC.out _ HB9.out | fail)
    (first | (go_at_call 23; (with_reducible refine (Cyz.out w8).mono ?_); rintro e w9 ⟨rfl, hb9⟩; have HB9 := Lib.hid (below_next HB8.out HB8.out.size hb9); clear hb9) | (go_at_call 23; (with_reducible refine (Cyx.out w7).mono ?_); rintro e w8 ⟨rfl, hb8⟩; have HB8 := Lib.hid (below_next HB7.out HB7.out.size hb8); clear hb8) | (go_at_call 23; (with_reducible refine (Cxy.out _).mono ?_); rintro e w7 ⟨rfl, hb7⟩; have HB7 := Lib.hid (below_next HBd.out HBd.out.size hb7); clear hb7) | fail)
  have HF := Lib.hid (below_next HB6.out HB6.out.size HB9.out)
  clear KC HBd HB7 HB8 HB9
  go_wp2_with fail
  refine (hAl.out _ HF.out).mono ?_
  rintro e w10 ⟨rfl, -, hb10⟩
  have HF10 := Lib.hid hb10
  obtain ⟨⟨x0, x1, x2, x3, x4, x5, x6⟩, ⟨y0, y1, y2, y3, y4, y5, y6⟩, z0, z1, z2, z3, z4, z5, z6⟩ := HC0.out _ hb10
  clear hb10 HF
  have HBE : Hid (∀ W', Below W.heap.size W W' → Below w.heap.size w W') := Lib.hid (fun W' h => below_next HB.out HB.out.size h)
  have hqe := HQE.out
  obtain ⟨hq1, hq2⟩ := HQ.out
  have hab : (a = false ∧ b = false ∧ q = true) ∨ (a = true ∧ b = false ∧ q = false) ∨ (a = false ∧ b = true ∧ q = false) := by
    cases q
    · have e := hq2 rfl
      have e2 := HAB.out
      cases a <;> cases b <;> simp_all
    · obtain ⟨rfl, rfl⟩ := hq1 rfl
      exact .inl ⟨rfl, rfl, rfl⟩
  clear hq1 hq2 HQ HAB HQE hAl hEx HB CRx CRy CRz CGx CGy CGz Cxy Cyx Cyz HB6 HGW EXIT
  rcases hab with ⟨rfl, rfl, rfl⟩ | ⟨rfl, rfl, rfl⟩ | ⟨rfl, rfl, rfl⟩
  · clear HT
    go_wp2_with fail
    refine (Czz.out _).mono ?_
    rintro e w8 ⟨rfl, hb8⟩
    have HB8 := Lib.hid (below_next HF10.out HF10.out.size hb8)
    clear hb8
    go_wp2_with fail
    go_ret
    exact ⟨rfl, HBE.out _ HB8.out⟩
  · cases c
    · clear HT
      go_wp2_with fail
      refine (Czz.out _).mono ?_
      rintro e w8 ⟨rfl, hb8⟩
      have HB8 := Lib.hid (below_next HF10.out HF10.out.size hb8)
      clear hb8
      go_wp2_with fail
      go_ret
      exact ⟨rfl, HBE.out _ HB8.out⟩
    · obtain rfl : d = true := HT.out rfl rfl
      clear HT
      go_wp2_with fail
      refine (Cxz.out _).mono ?_
      rintro e w9 ⟨rfl, hb9⟩
      have HB9 := Lib.hid (below_next HF10.out HF10.out.size hb9)
      clear hb9 x0 x1 x2 x3 x4 x5 x6 y0 y1 y2 y3 y4 y5 y6 z0 z1 z2 z3 z4 z5 z6
      obtain ⟨⟨x0, x1, x2, x3, x4, x5, x6⟩, ⟨y0, y1, y2, y3, y4, y5, y6⟩, z0, z1, z2, z3, z4, z5, z6⟩ := HC0.out _ HB9.out
      go_wp2_with fail
      refine (Czz.out _).mono ?_
      rintro e w8 ⟨rfl, hb8⟩
      have HB8 := Lib.hid (below_next HB9.out HB9.out.size hb8)
      clear hb8
      go_wp2_with fail
      go_ret
      exact ⟨rfl, HBE.out _ HB8.out⟩
  · clear HT
    go_wp2_with fail
    refine (Czz.out _).mono ?_
    rintro e w8 ⟨rfl, hb8⟩
    have HB8 := Lib.hid (below_next HF10.out HF10.out.size hb8)
    clear hb8
    go_wp2_with fail
    go_ret
    exact ⟨rfl, HBE.out _ HB8.out⟩
end Go.Proofs.YtbgcbcnidjlhnaaDoor.IdentOrder
