/- The statement EidOrder: its walk. -/
import Derived.Test.YtoieadbifhealaaDoorAlive04
import Derived.Test.YtoieadbifhealaaDoorEidOrd
import Derived.Test.YtoieadbifhealaaDoorEidEq
import Derived.Deep.CutBlock
import Derived.Deep.RegionHeld3
namespace Go.Proofs.YtoieadbifhealaaDoor.EidOrder
open Go.RowKit Wd Eid
attribute [local go_sem ↓ high] Eid.run_nm

/-- The cells of three names. -/
abbrev C3 (w : World) (g : Nat) (x y z : Nm) : Prop :=
  (w.cell? ⟨g, 0, none⟩ = some (.bool x.ipn) ∧ w.cell? ⟨g, 1, none⟩ = some (.int .u64 x.node) ∧ w.cell? ⟨g, 2, none⟩ = some (.int .u64 x.service) ∧ w.cell? ⟨g, 3, none⟩ = some (.string x.host) ∧ w.cell? ⟨g, 4, none⟩ = some (.string x.demux)) ∧
  (w.cell? ⟨g + 1, 0, none⟩ = some (.bool y.ipn) ∧ w.cell? ⟨g + 1, 1, none⟩ = some (.int .u64 y.node) ∧ w.cell? ⟨g + 1, 2, none⟩ = some (.int .u64 y.service) ∧ w.cell? ⟨g + 1, 3, none⟩ = some (.string y.host) ∧ w.cell? ⟨g + 1, 4, none⟩ = some (.string y.demux)) ∧
  (w.cell? ⟨g + 1 + 1, 0, none⟩ = some (.bool z.ipn) ∧ w.cell? ⟨g + 1 + 1, 1, none⟩ = some (.int .u64 z.node) ∧ w.cell? ⟨g + 1 + 1, 2, none⟩ = some (.int .u64 z.service) ∧ w.cell? ⟨g + 1 + 1, 3, none⟩ = some (.string z.host) ∧ w.cell? ⟨g + 1 + 1, 4, none⟩ = some (.string z.demux))

set_option maxRecDepth 100000 in
set_option maxHeartbeats 8000000 in
theorem walk (x y z : Nm) (w : World) (hx : x.ok) (hy : y.ok) (hz : z.ok) (G : Gl w) : Calls Tryd.prog 10 #[x.val, y.val, z.val] w fun e w' => e = .returned (.bool true) ∧ Below w.heap.size w w' := by
  have CRx := Lib.hid (fun w' => right_any x hx w')
  have CRy := Lib.hid (fun w' => right_any y hy w')
  have CRz := Lib.hid (fun w' => right_any z hz w')
  have CA := Lib.hid (fun w' g => alive_any w' g)
  have CLxy := Lib.hid (fun w' => show Calls Tryd.prog 33 #[x.val, y.val] w' (fun e w1 => e = .returned (.bool (ls x y)) ∧ Below w'.heap.size w' w1) from less_any x y w')
  have CLyx := Lib.hid (fun w' => show Calls Tryd.prog 33 #[y.val, x.val] w' (fun e w1 => e = .returned (.bool (ls y x)) ∧ Below w'.heap.size w' w1) from less_any y x w')
  have CLyz := Lib.hid (fun w' => show Calls Tryd.prog 33 #[y.val, z.val] w' (fun e w1 => e = .returned (.bool (ls y z)) ∧ Below w'.heap.size w' w1) from less_any y z w')
  have CLxz := Lib.hid (fun w' => show Calls Tryd.prog 33 #[x.val, z.val] w' (fun e w1 => e = .returned (.bool (ls x z)) ∧ Below w'.heap.size w' w1) from less_any x z w')
  have CLxx := Lib.hid (fun w' => show Calls Tryd.prog 33 #[x.val, x.val] w' (fun e w1 => e = .returned (.bool false) ∧ Below w'.heap.size w' w1) from (less_any x x w').mono fun e w1 h => by
    have hs := ls_self x
    unfold ls at hs
    rw [hs] at h
    exact h)
  have HQ := Lib.hid (show (nmEq x y = true → ls x y = false ∧ ls y x = false) ∧ (nmEq x y = false → ls x y = !ls y x) from ⟨fun h => by
      obtain rfl := (nmEq_iff x y).1 h
      exact ⟨ls_self x, ls_self x⟩, fun h => by
      have := ls_one x y (fun e => by rw [(nmEq_iff x y).2 e] at h; cases h)
      cases h1 : ls x y <;> cases h2 : ls y x <;> simp_all⟩)
  have HT := Lib.hid (ls_trans x y z)
  have HG := Lib.hid G
  clear hx hy hz G
  have HC0 := Lib.hid (fun (W : World) (h : Below (((w.alloc (.cells x.cells 51)).alloc (.cells y.cells 51)).alloc (.cells z.cells 51)).heap.size (((w.alloc (.cells x.cells 51)).alloc (.cells y.cells 51)).alloc (.cells z.cells 51)) W) => show C3 W w.heap.size x y z from by
    have k1 := ((Blk.new w 51 x.cells).alloc (.cells y.cells 51)).alloc (.cells z.cells 51)
    have k2 := (Blk.new (w.alloc (.cells x.cells 51)) 51 y.cells).alloc (.cells z.cells 51)
    have k3 := Blk.new ((w.alloc (.cells x.cells 51)).alloc (.cells y.cells 51)) 51 z.cells
    simp only [World.size_alloc] at k2 k3
    exact ⟨cells5 (k1.next h), cells5 (k2.next h), cells5 (k3.next h)⟩)
  have HB := Lib.hid ((((Below.refl w.heap.size w).alloc (Nat.le_refl _) (.cells x.cells 51)).alloc (by simp) (.cells y.cells 51)).alloc (by simp; omega) (.cells z.cells 51))
  generalize hrx : right x = rx at *
  generalize hry : right y = ry at *
  generalize hrz : right z = rz at *
  generalize hq : nmEq x y = q at *
  generalize hlxy : ls x y = a at *
  generalize hlyx : ls y x = b at *
  generalize hlyz : ls y z = c at *
  generalize hlxz : ls x z = d at *
  clear hrx hry hrz hlxy hlyx hlyz hlxz
  have HQE := Lib.hid hq
  clear hq
  obtain ⟨xi, xn, xs, xh, xd⟩ := x
  obtain ⟨yi, yn, ys, yh, yd⟩ := y
  obtain ⟨zi, zn, zs, zh, zd⟩ := z
  go_enter Tryd.func10, Tryd.ntmps10
  go_upto_region 1 with (fail)
  generalize ((w.alloc (.cells #[.bool xi, .int .u64 xn, .int .u64 xs, .string xh, .string xd] 51)).alloc (.cells #[.bool yi, .int .u64 yn, .int .u64 ys, .string yh, .string yd] 51)).alloc (.cells #[.bool zi, .int .u64 zn, .int .u64 zs, .string zh, .string zd] 51) = W at *
  have HGW := Lib.hid (HG.out.below HB.out)
  have KC := Lib.hid (fun (W' : World) (hW : Below W.heap.size W W') => HC0.out W' hW)
  clear HG HC0
  have hAl : Hid (∀ W', Below W.heap.size W W' → Calls Tryd.prog 27 #[] W' fun e w1 => e = .returned (.bool true) ∧ Below w.heap.size w w1) := Lib.hid (fun W' hW => by
    refine (CA.out W' (HGW.out.below hW)).mono ?_
    rintro e w1 ⟨rfl, hb⟩
    exact ⟨rfl, below_next HB.out HB.out.size (below_next hW hW.size hb)⟩)
  obtain ⟨⟨x0, x1, x2, x3, x4⟩, ⟨y0, y1, y2, y3, y4⟩, z0, z1, z2, z3, z4⟩ := KC.out W (Below.refl _ _)
  cases hS : decide (600 < wrap64 (wrap64 (wrap64 (wrap64 (wrap64 ((xh.size : Int) + yh.size) + zh.size) + xd.size) + yd.size) + zd.size))
  rotate_left
  · go_wp2_with fail
    refine (hAl.out W (Below.refl _ _)).mono ?_
    rintro e w1 ⟨rfl, hb⟩
    have HB1 := Lib.hid hb
    clear hb
    go_wp2_with fail
    go_ret
    exact ⟨rfl, HB1.out⟩
  · go_wp2_with fail
    clear hS
    refine (CRx.out W).mono ?_
    rintro e w1 ⟨rfl, hb1⟩
    have HB1 := Lib.hid hb1
    clear hb1 x0 x1 x2 x3 x4 y0 y1 y2 y3 y4 z0 z1 z2 z3 z4
    cases rx
    · go_wp2_with fail
      refine (hAl.out w1 HB1.out).mono ?_
      rintro e w1 ⟨rfl, hb⟩
      have HB1 := Lib.hid hb
      clear hb
      go_wp2_with fail
      go_ret
      exact ⟨rfl, HB1.out⟩
    · obtain ⟨⟨x0, x1, x2, x3, x4⟩, ⟨y0, y1, y2, y3, y4⟩, z0, z1, z2, z3, z4⟩ := KC.out w1 HB1.out
      go_wp2_with fail
      refine (CRy.out w1).mono ?_
      rintro e w2 ⟨rfl, hb2⟩
      have HB2 := Lib.hid (below_next HB1.out HB1.out.size hb2)
      clear hb2 x0 x1 x2 x3 x4 y0 y1 y2 y3 y4 z0 z1 z2 z3 z4
      cases ry
      · go_wp2_with fail
        refine (hAl.out w2 HB2.out).mono ?_
        rintro e w1 ⟨rfl, hb⟩
        have HB1 := Lib.hid hb
        clear hb
        go_wp2_with fail
        go_ret
        exact ⟨rfl, HB1.out⟩
      · obtain ⟨⟨x0, x1, x2, x3, x4⟩, ⟨y0, y1, y2, y3, y4⟩, z0, z1, z2, z3, z4⟩ := KC.out w2 HB2.out
        go_wp2_with fail
        refine (CRz.out w2).mono ?_
        rintro e w3 ⟨rfl, hb3⟩
        have HB3 := Lib.hid (below_next HB2.out HB2.out.size hb3)
        clear hb3 x0 x1 x2 x3 x4 y0 y1 y2 y3 y4 z0 z1 z2 z3 z4
        cases rz
        · go_wp2_with fail
          refine (hAl.out w3 HB3.out).mono ?_
          rintro e w1 ⟨rfl, hb⟩
          have HB1 := Lib.hid hb
          clear hb
          go_wp2_with fail
          go_ret
          exact ⟨rfl, HB1.out⟩
        · obtain ⟨⟨x0, x1, x2, x3, x4⟩, ⟨y0, y1, y2, y3, y4⟩, z0, z1, z2, z3, z4⟩ := KC.out w3 HB3.out
          have HBd := Lib.hid (HB3.out.trans ((Below.refl W.heap.size w3).drew))
          clear HB1 HB2 CRx CRy CRz
          go_wp2_with fail
          go_region_held3 (fun w' => C3 w' w.heap.size ⟨xi, xn, xs, xh, xd⟩ ⟨yi, yn, ys, yh, yd⟩ ⟨zi, zn, zs, zh, zd⟩)
            (first | with_reducible exact KC.out _ HBd.out | with_reducible exact KC.out _ HB4.out | with_reducible exact KC.out _ HB5.out | with_reducible exact KC.out _ HB6.out | fail)
            (first | (go_at_call 33; (with_reducible refine (CLyz.out w5).mono ?_); rintro e w6 ⟨rfl, hb6⟩; have HB6 := Lib.hid (below_next HB5.out HB5.out.size hb6); clear hb6) | (go_at_call 33; (with_reducible refine (CLyx.out w4).mono ?_); rintro e w5 ⟨rfl, hb5⟩; have HB5 := Lib.hid (below_next HB4.out HB4.out.size hb5); clear hb5) | (go_at_call 33; (with_reducible refine (CLxy.out _).mono ?_); rintro e w4 ⟨rfl, hb4⟩; have HB4 := Lib.hid (below_next HBd.out HBd.out.size hb4); clear hb4) | fail)
          have HG6 := Lib.hid (HGW.out.below HB6.out)
          have HBE : Hid (∀ W', Below W.heap.size W W' → Below w.heap.size w W') := Lib.hid (fun W' h => below_next HB.out HB.out.size h)
          clear HB3 HB4 HB5 HBd CLxy CLyx CLyz hAl HGW HB x0 x1 x2 x3 x4 y0 y1 y2 y3 y4 z0 z1 z2 z3 z4
          go_wp2_with fail
          refine (CA.out w6 HG6.out).mono ?_
          rintro e w7 ⟨rfl, hb7⟩
          have HB7 := Lib.hid (below_next HB6.out HB6.out.size hb7)
          clear hb7 HB6 HG6 CA
          have hqe := HQE.out
          obtain ⟨⟨x0, x1, x2, x3, x4⟩, ⟨y0, y1, y2, y3, y4⟩, z0, z1, z2, z3, z4⟩ := KC.out w7 HB7.out
          have hTT := HT.out
          have HTT := Lib.hid hTT
          obtain ⟨hq1, hq2⟩ := HQ.out
          have hab : (a = false ∧ b = false ∧ q = true) ∨ (a = true ∧ b = false ∧ q = false) ∨ (a = false ∧ b = true ∧ q = false) := by
            cases q
            · have e := hq2 rfl
              cases b <;> simp_all
            · obtain ⟨rfl, rfl⟩ := hq1 rfl
              exact .inl ⟨rfl, rfl, rfl⟩
          clear hTT hq1 hq2 HQ HT HQE
          rcases hab with ⟨rfl, rfl, rfl⟩ | ⟨rfl, rfl, rfl⟩ | ⟨rfl, rfl, rfl⟩
          · clear HTT
            go_wp2_with fail
            refine (CLxx.out _).mono ?_
            rintro e w8 ⟨rfl, hb8⟩
            have HB8 := Lib.hid (below_next HB7.out HB7.out.size hb8)
            clear hb8
            go_wp2_with fail
            go_ret
            exact ⟨rfl, HBE.out _ HB8.out⟩
          · cases c
            · clear HTT
              go_wp2_with fail
              refine (CLxx.out _).mono ?_
              rintro e w8 ⟨rfl, hb8⟩
              have HB8 := Lib.hid (below_next HB7.out HB7.out.size hb8)
              clear hb8
              go_wp2_with fail
              go_ret
              exact ⟨rfl, HBE.out _ HB8.out⟩
            · obtain rfl : d = true := HTT.out rfl rfl
              clear HTT
              go_wp2_with fail
              refine (CLxz.out _).mono ?_
              rintro e w9 ⟨rfl, hb9⟩
              have HB9 := Lib.hid (below_next HB7.out HB7.out.size hb9)
              clear hb9 x0 x1 x2 x3 x4 y0 y1 y2 y3 y4 z0 z1 z2 z3 z4
              obtain ⟨⟨x0, x1, x2, x3, x4⟩, ⟨y0, y1, y2, y3, y4⟩, z0, z1, z2, z3, z4⟩ := KC.out w9 HB9.out
              go_wp2_with fail
              refine (CLxx.out _).mono ?_
              rintro e w8 ⟨rfl, hb8⟩
              have HB8 := Lib.hid (below_next HB9.out HB9.out.size hb8)
              clear hb8
              go_wp2_with fail
              go_ret
              exact ⟨rfl, HBE.out _ HB8.out⟩
          · clear HTT
            go_wp2_with fail
            refine (CLxx.out _).mono ?_
            rintro e w8 ⟨rfl, hb8⟩
            have HB8 := Lib.hid (below_next HB7.out HB7.out.size hb8)
            clear hb8
            go_wp2_with fail
            go_ret
            exact ⟨rfl, HBE.out _ HB8.out⟩
end Go.Proofs.YtoieadbifhealaaDoor.EidOrder
