/- The statement EidWrites: its walk. -/
import Derived.Test.YtoieadbifhealaaDoorAlive04
import Derived.Test.YtoieadbifhealaaDoorRefLess
import Derived.Test.YtoieadbifhealaaDoorEidRead
import Derived.Test.YtoieadbifhealaaDoorRefWr
import Derived.Test.YtoieadbifhealaaDoorAs03
import Derived.Test.YtoieadbifhealaaDoorRefSame
namespace Go.Proofs.YtoieadbifhealaaDoor.EidWrites
open Go.RowKit Wd Eid Cb

/-- The cells of the two names, and of the document's. -/
abbrev C3 (w : World) (g ga : Nat) (x y : Nm) : Prop :=
  (w.cell? ⟨g, 0, none⟩ = some (.bool x.ipn) ∧ w.cell? ⟨g, 1, none⟩ = some (.int .u64 x.node) ∧ w.cell? ⟨g, 2, none⟩ = some (.int .u64 x.service) ∧ w.cell? ⟨g, 3, none⟩ = some (.string x.host) ∧ w.cell? ⟨g, 4, none⟩ = some (.string x.demux)) ∧
  (w.cell? ⟨g + 1, 0, none⟩ = some (.bool y.ipn) ∧ w.cell? ⟨g + 1, 1, none⟩ = some (.int .u64 y.node) ∧ w.cell? ⟨g + 1, 2, none⟩ = some (.int .u64 y.service) ∧ w.cell? ⟨g + 1, 3, none⟩ = some (.string y.host) ∧ w.cell? ⟨g + 1, 4, none⟩ = some (.string y.demux)) ∧
  (w.cell? ⟨ga, 0, none⟩ = some (.bool x.ipn) ∧ w.cell? ⟨ga, 1, none⟩ = some (.int .u64 x.node) ∧ w.cell? ⟨ga, 2, none⟩ = some (.int .u64 x.service) ∧ w.cell? ⟨ga, 3, none⟩ = some (.string x.host) ∧ w.cell? ⟨ga, 4, none⟩ = some (.string x.demux))

set_option maxRecDepth 100000 in
set_option maxHeartbeats 8000000 in
theorem walk (x y : Nm) (w : World) (hx : x.ok) (hy : y.ok) (G : Gl w) : Calls Tryd.prog 7 #[x.val, y.val] w fun e w' => e = .returned (.bool true) ∧ Below w.heap.size w w' := by
  have CR := Lib.hid (fun w' => right_any x hx w')
  have CA := Lib.hid (fun w' g => alive_any w' g)
  have CT := Lib.hid (fun w' g => text_any x hx w' g)
  have CW := Lib.hid (fun w' => write_any x hx w')
  have CAx := Lib.hid (fun w' => as04_any x w')
  have CAy := Lib.hid (fun w' => as04_any y w')
  have CL := Lib.hid (fun w' => less_any x y w')
  have CL4 := Lib.hid (fun w' => less04_any x y w')
  have CK := Lib.hid (fun w' => kind04_any x hx w')
  have CT4 := Lib.hid (fun hr w' => text04_any x hx hr w')
  have CW4 := Lib.hid (fun hr w' => write04_any x hx hr w')
  have CAs : Hid (∀ v w', ItemV w' 0 w'.heap.size (itemOf x) v → Calls Tryd.prog 14 #[v, .int .i64 9] w' fun e w1 => ∃ k n A l c A' l' c', e = .returned (.agg #[.int .i64 k, .int .u64 n, .slice A l c, .slice A' l' c']) ∧ Hid (ItemV w1 0 w1.heap.size (itemOf x) (.agg #[.int .i64 k, .int .u64 n, .slice A l c, .slice A' l' c'])) ∧ Below w'.heap.size w' w1) := Lib.hid (fun v w' hv => by
    have h1 := (itemOf_size x).1
    have h2 := (itemOf_size x).2
    refine (As03.as_rec 100 (itemOf x) v w'.heap.size 9 w' (by omega) hv (Nat.le_refl _) (by omega) (by omega) (by omega)).mono ?_
    rintro e w1 ⟨v', rfl, HA, hb⟩
    have hi := HA.out.self
    obtain ⟨_, _, _, _, rfl, _⟩ := hi.open_
    exact ⟨_, _, _, _, _, _, _, _, rfl, Lib.hid hi, hb⟩)
  have CS : Hid (∀ v u w', ItemV w' 0 w'.heap.size (itemOf x) v → ItemV w' 0 w'.heap.size (itemOf x) u → Calls Tryd.prog 19 #[v, u] w' fun e w1 => e = .returned (.bool true) ∧ Below w'.heap.size w' w1) := Lib.hid (fun v u w' hv hu => by
    have h1 := (itemOf_size x).1
    have h2 := (itemOf_size x).2
    refine (RefSame.refSame_any 100 (itemOf x) (itemOf x) v u w' (by omega) hv hu (by omega) (by omega)).mono ?_
    rintro e w1 ⟨rfl, hb⟩
    rw [same_self]
    exact ⟨rfl, hb⟩)
  have HKr : Hid (decide (0 ≤ rk x) = right x ∧ decide (rk x < 0) = !right x) := Lib.hid (by
    cases h : right x
    · rw [rk_false h]; exact ⟨rfl, rfl⟩
    · rw [rk_true h]
      rcases kd_cases x with e | e | e <;> rw [e] <;> exact ⟨rfl, rfl⟩)
  have HG := Lib.hid G
  clear hx hy G
  have HC0 := Lib.hid (fun (W : World) (h : Below ((w.alloc (.cells x.cells 51)).alloc (.cells y.cells 51)).heap.size ((w.alloc (.cells x.cells 51)).alloc (.cells y.cells 51)) W) => show Blk W w.heap.size 51 x.cells ∧ Blk W (w.heap.size + 1) 51 y.cells from by
    have k1 := (Blk.new w 51 x.cells).alloc (.cells y.cells 51)
    have k2 := Blk.new (w.alloc (.cells x.cells 51)) 51 y.cells
    simp only [World.size_alloc] at k2
    exact ⟨k1.next h, k2.next h⟩)
  have HB := Lib.hid (((Below.refl w.heap.size w).alloc (Nat.le_refl _) (.cells x.cells 51)).alloc (by simp) (.cells y.cells 51))
  generalize right x = r at *
  generalize rk x = K at *
  generalize textOf x = T at *
  generalize itemOf x = I at *
  generalize hls : decide (ord x y < 0) = ls at *
  clear hls
  obtain ⟨xi, xn, xs, xh, xd⟩ := x
  obtain ⟨yi, yn, ys, yh, yd⟩ := y
  go_enter Tryd.func7, Tryd.ntmps7
  go_upto_region 1 with (fail)
  generalize (w.alloc (.cells #[.bool xi, .int .u64 xn, .int .u64 xs, .string xh, .string xd] 51)).alloc (.cells #[.bool yi, .int .u64 yn, .int .u64 ys, .string yh, .string yd] 51) = W at *
  have HGW := Lib.hid (HG.out.below HB.out)
  have HX := Lib.hid (HC0.out W (Below.refl _ _)).1
  have HY := Lib.hid (HC0.out W (Below.refl _ _)).2
  have HBE : Hid (∀ W', Below W.heap.size W W' → Below w.heap.size w W') := Lib.hid (fun W' h => below_next HB.out HB.out.size h)
  have CG : Hid (∀ W', Below W.heap.size W W' → Gl W') := Lib.hid (fun W' h => HGW.out.below h)
  clear HG HC0 HB HGW
  obtain ⟨x0, x1, x2, x3, x4⟩ := cells5 HX.out
  obtain ⟨y0, y1, y2, y3, y4⟩ := cells5 HY.out
  cases hS : decide (300 < wrap64 ((xh.size : Int) + xd.size))
  rotate_left
  · go_wp2_with fail
    refine (CA.out W (CG.out _ (Below.refl _ _))).mono ?_
    rintro e w1 ⟨rfl, hb⟩
    have HB1 := Lib.hid hb
    clear hb
    go_wp2_with fail
    go_ret
    exact ⟨rfl, HBE.out _ HB1.out⟩
  · cases hM : decide (300 < wrap64 ((yh.size : Int) + yd.size))
    rotate_left
    · go_wp2_with fail
      refine (CA.out W (CG.out _ (Below.refl _ _))).mono ?_
      rintro e w1 ⟨rfl, hb⟩
      have HB1 := Lib.hid hb
      clear hb
      go_wp2_with fail
      go_ret
      exact ⟨rfl, HBE.out _ HB1.out⟩
    · go_wp2_with fail
      clear hS hM
      refine (CAx.out W).mono ?_
      rintro e w1 ⟨rfl, hb1⟩
      clear x0 x1 x2 x3 x4 y0 y1 y2 y3 y4
      have HB2 := Lib.hid ((show Below W.heap.size W w1 from hb1).alloc hb1.size (.cells #[.bool xi, .int .u64 xn, .int .u64 xs, .string xh, .string xd] 52))
      have HX2 := Lib.hid ((HX.out.next hb1).alloc (.cells #[.bool xi, .int .u64 xn, .int .u64 xs, .string xh, .string xd] 52))
      have HY2 := Lib.hid ((HY.out.next hb1).alloc (.cells #[.bool xi, .int .u64 xn, .int .u64 xs, .string xh, .string xd] 52))
      have HA2 := Lib.hid (Blk.new w1 52 #[.bool xi, .int .u64 xn, .int .u64 xs, .string xh, .string xd])
      clear hb1 HX HY CAx
      go_upto_region 4 with (fail)
      generalize w1.alloc (.cells #[.bool xi, .int .u64 xn, .int .u64 xs, .string xh, .string xd] 52) = W2 at *
      generalize w1.heap.size = ga at *
      obtain ⟨x0, x1, x2, x3, x4⟩ := cells5 HX2.out
      cases r
      · simp only [Bool.false_eq_true, if_false] at CT CW
        obtain ⟨hk1, hk2⟩ := HKr.out
        have HK1 := Lib.hid hk1
        have HK2 := Lib.hid hk2
        clear HKr CT4 CW4 CAs CS hk1 hk2
        go_wp2_with fail
        refine (CT.out W2 (CG.out _ HB2.out)).mono ?_
        rintro e w3 ⟨rfl, hb3⟩
        have HB3 := Lib.hid (below_next HB2.out HB2.out.size hb3)
        have HX3 := Lib.hid (HX2.out.next hb3)
        have HY3 := Lib.hid (HY2.out.next hb3)
        have HA3 := Lib.hid (HA2.out.next hb3)
        clear hb3 x0 x1 x2 x3 x4 HB2 HX2 HY2 HA2 CT
        obtain ⟨x0, x1, x2, x3, x4⟩ := cells5 HX3.out
        go_wp2_with fail
        refine (CW.out w3).mono ?_
        rintro e w4 ⟨v, rfl, HI, hb4⟩
        have HB4 := Lib.hid (below_next HB3.out HB3.out.size hb4)
        have HX4 := Lib.hid (HX3.out.next hb4)
        have HY4 := Lib.hid (HY3.out.next hb4)
        have HA4 := Lib.hid (HA3.out.next hb4)
        clear hb4 x0 x1 x2 x3 x4 HB3 HX3 HY3 HA3 CW
        obtain ⟨Ab, cb, Ab', cb', rfl⟩ : ∃ Ab cb Ab' cb', v = .agg #[.int .i64 0, .int .u64 0, .slice Ab 0 cb, .slice Ab' 0 cb'] := by
          obtain ⟨_, _, _, _, e, _⟩ := HI.out.open_
          exact ⟨_, _, _, _, e⟩
        have HV5 := Lib.hid (Blk.new w4 26 #[.int .i64 0, .int .u64 0, .slice Ab 0 cb, .slice Ab' 0 cb'])
        have HB5 := Lib.hid (HB4.out.alloc HB4.out.size (.cells #[.int .i64 0, .int .u64 0, .slice Ab 0 cb, .slice Ab' 0 cb'] 26))
        have HX5 := Lib.hid (HX4.out.alloc (.cells #[.int .i64 0, .int .u64 0, .slice Ab 0 cb, .slice Ab' 0 cb'] 26))
        have HY5 := Lib.hid (HY4.out.alloc (.cells #[.int .i64 0, .int .u64 0, .slice Ab 0 cb, .slice Ab' 0 cb'] 26))
        have HA5 := Lib.hid (HA4.out.alloc (.cells #[.int .i64 0, .int .u64 0, .slice Ab 0 cb, .slice Ab' 0 cb'] 26))
        clear HI HB4 HX4 HY4 HA4
        go_upto_region 6 with (fail)
        generalize w4.alloc (.cells #[.int .i64 0, .int .u64 0, .slice Ab 0 cb, .slice Ab' 0 cb'] 26) = W5 at *
        have KC := Lib.hid (fun (W' : World) (h : Below W5.heap.size W5 W') => show C3 W' w.heap.size ga ⟨xi, xn, xs, xh, xd⟩ ⟨yi, yn, ys, yh, yd⟩ from ⟨cells5 (HX5.out.next h), cells5 (HY5.out.next h), cells5 (HA5.out.next h)⟩)
        have HBd := Lib.hid (show Below W5.heap.size W5 W5.drew from (Below.refl _ W5).drew)
        have hk1 := HK1.out
        have hll : (ls != ls) = false := by simp
        obtain ⟨⟨x0, x1, x2, x3, x4⟩, ⟨y0, y1, y2, y3, y4⟩, a0, a1, a2, a3, a4⟩ := KC.out W5 (Below.refl _ _)
        go_region_held3 (fun w' => C3 w' w.heap.size ga ⟨xi, xn, xs, xh, xd⟩ ⟨yi, yn, ys, yh, yd⟩)
          (first | with_reducible exact KC.out _ HBd.out | with_reducible exact KC.out _ HB6.out | with_reducible exact KC.out _ HB7.out | with_reducible exact KC.out _ HB8.out | with_reducible exact KC.out _ HB9.out | with_reducible exact KC.out _ HB10.out | fail)
          (first | (go_at_call 34; (with_reducible refine (CL4.out w9).mono ?_); rintro e w10 ⟨rfl, hb10⟩; have HB10 := Lib.hid (below_next HB9.out HB9.out.size hb10); clear hb10) | (go_at_call 28; (with_reducible refine (CAy.out w8).mono ?_); rintro e w9 ⟨rfl, hb9⟩; have HB9 := Lib.hid (below_next HB8.out HB8.out.size hb9); clear hb9) | (go_at_call 33; (with_reducible refine (CL.out w7).mono ?_); rintro e w8 ⟨rfl, hb8⟩; have HB8 := Lib.hid (below_next HB7.out HB7.out.size hb8); clear hb8) | (go_at_call 32; (with_reducible refine (CK.out w6).mono ?_); rintro e w7 ⟨rfl, hb7⟩; have HB7 := Lib.hid (below_next HB6.out HB6.out.size hb7); clear hb7) | (go_at_call 31; (with_reducible refine (CR.out _).mono ?_); rintro e w6 ⟨rfl, hb6⟩; have HB6 := Lib.hid (below_next HBd.out HBd.out.size hb6); clear hb6) | fail)
        have HW10 := Lib.hid (below_next HB5.out HB5.out.size HB10.out)
        have HV10 := Lib.hid (HV5.out.next HB10.out)
        have HA10 := Lib.hid (HA5.out.next HB10.out)
        clear KC HBd HB6 HB7 HB8 HB9 HB10 HX5 HY5 HA5 HB5 HV5 hll hk1
        obtain ⟨a0, a1, a2, a3, a4⟩ := cells5 HA10.out
        go_upto_region 8 with (fail)
        go_wp2_with fail
        refine (CK.out w10).mono ?_
        rintro e w11 ⟨rfl, hb11⟩
        have HW11 := Lib.hid (below_next HW10.out HW10.out.size hb11)
        have HV11 := Lib.hid (HV10.out.next hb11)
        have HA11 := Lib.hid (HA10.out.next hb11)
        clear hb11 a0 a1 a2 a3 a4 HW10 HV10 HA10
        have hk2 := HK2.out
        go_wp2_with fail
        refine (CA.out w11 (CG.out _ HW11.out)).mono ?_
        rintro e w12 ⟨rfl, hb12⟩
        have HW12 := Lib.hid (below_next HW11.out HW11.out.size hb12)
        have HV12 := Lib.hid (HV11.out.next hb12)
        clear hb12
        obtain ⟨v0, v1, v2, v3⟩ := cell4 HV12.out
        go_wp2_with fail
        go_ret
        exact ⟨rfl, HBE.out _ HW12.out⟩
      · simp only [if_true] at CT CW
        obtain ⟨hk1, hk2⟩ := HKr.out
        have HK1 := Lib.hid hk1
        have HK2 := Lib.hid hk2
        have CT4' := Lib.hid (CT4.out (by first | rfl | trivial))
        have CW4' := Lib.hid (CW4.out (by first | rfl | trivial))
        clear HKr CT4 CW4 hk1 hk2
        go_wp2_with fail
        refine (CT.out W2 (CG.out _ HB2.out)).mono ?_
        rintro e w3 ⟨rfl, hb3⟩
        have HB3 := Lib.hid (below_next HB2.out HB2.out.size hb3)
        have HX3 := Lib.hid (HX2.out.next hb3)
        have HY3 := Lib.hid (HY2.out.next hb3)
        have HA3 := Lib.hid (HA2.out.next hb3)
        clear hb3 x0 x1 x2 x3 x4 HB2 HX2 HY2 HA2 CT
        obtain ⟨x0, x1, x2, x3, x4⟩ := cells5 HX3.out
        go_wp2_with fail
        refine (CW.out w3).mono ?_
        rintro e w4 ⟨v, rfl, HI, hb4⟩
        have HB4 := Lib.hid (below_next HB3.out HB3.out.size hb4)
        have HX4 := Lib.hid (HX3.out.next hb4)
        have HY4 := Lib.hid (HY3.out.next hb4)
        have HA4 := Lib.hid (HA3.out.next hb4)
        clear hb4 x0 x1 x2 x3 x4 HB3 HX3 HY3 HA3 CW
        obtain ⟨kb, nb, Ab, lb, cb, Ab', lb', cb', hvb⟩ : ∃ kb nb Ab lb cb Ab' lb' cb', v = .agg #[.int .i64 kb, .int .u64 nb, .slice Ab lb cb, .slice Ab' lb' cb'] := by
          obtain ⟨_, _, _, _, e, _⟩ := HI.out.open_
          exact ⟨_, _, _, _, _, _, _, _, e⟩
        subst hvb
        have HV5 := Lib.hid (Blk.new w4 26 #[.int .i64 kb, .int .u64 nb, .slice Ab lb cb, .slice Ab' lb' cb'])
        have HB5 := Lib.hid (HB4.out.alloc HB4.out.size (.cells #[.int .i64 kb, .int .u64 nb, .slice Ab lb cb, .slice Ab' lb' cb'] 26))
        have HX5 := Lib.hid (HX4.out.alloc (.cells #[.int .i64 kb, .int .u64 nb, .slice Ab lb cb, .slice Ab' lb' cb'] 26))
        have HY5 := Lib.hid (HY4.out.alloc (.cells #[.int .i64 kb, .int .u64 nb, .slice Ab lb cb, .slice Ab' lb' cb'] 26))
        have HA5 := Lib.hid (HA4.out.alloc (.cells #[.int .i64 kb, .int .u64 nb, .slice Ab lb cb, .slice Ab' lb' cb'] 26))
        have HI5 := Lib.hid ((HI.out.alloc (Nat.le_refl _) (.cells #[.int .i64 kb, .int .u64 nb, .slice Ab lb cb, .slice Ab' lb' cb'] 26)).more (Nat.le_refl _) (show w4.heap.size ≤ (w4.alloc (.cells #[.int .i64 kb, .int .u64 nb, .slice Ab lb cb, .slice Ab' lb' cb'] 26)).heap.size by simp))
        clear HI HB4 HX4 HY4 HA4
        go_upto_region 6 with (fail)
        generalize w4.alloc (.cells #[.int .i64 kb, .int .u64 nb, .slice Ab lb cb, .slice Ab' lb' cb'] 26) = W5 at *
        have KC := Lib.hid (fun (W' : World) (h : Below W5.heap.size W5 W') => show C3 W' w.heap.size ga ⟨xi, xn, xs, xh, xd⟩ ⟨yi, yn, ys, yh, yd⟩ from ⟨cells5 (HX5.out.next h), cells5 (HY5.out.next h), cells5 (HA5.out.next h)⟩)
        have HBd := Lib.hid (show Below W5.heap.size W5 W5.drew from (Below.refl _ W5).drew)
        have hk1 := HK1.out
        have hll : (ls != ls) = false := by simp
        obtain ⟨⟨x0, x1, x2, x3, x4⟩, ⟨y0, y1, y2, y3, y4⟩, a0, a1, a2, a3, a4⟩ := KC.out W5 (Below.refl _ _)
        go_region_held3 (fun w' => C3 w' w.heap.size ga ⟨xi, xn, xs, xh, xd⟩ ⟨yi, yn, ys, yh, yd⟩)
          (first | with_reducible exact KC.out _ HBd.out | with_reducible exact KC.out _ HB6.out | with_reducible exact KC.out _ HB7.out | with_reducible exact KC.out _ HB8.out | with_reducible exact KC.out _ HB9.out | with_reducible exact KC.out _ HB10.out | fail)
          (first | (go_at_call 34; (with_reducible refine (CL4.out w9).mono ?_); rintro e w10 ⟨rfl, hb10⟩; have HB10 := Lib.hid (below_next HB9.out HB9.out.size hb10); clear hb10) | (go_at_call 28; (with_reducible refine (CAy.out w8).mono ?_); rintro e w9 ⟨rfl, hb9⟩; have HB9 := Lib.hid (below_next HB8.out HB8.out.size hb9); clear hb9) | (go_at_call 33; (with_reducible refine (CL.out w7).mono ?_); rintro e w8 ⟨rfl, hb8⟩; have HB8 := Lib.hid (below_next HB7.out HB7.out.size hb8); clear hb8) | (go_at_call 32; (with_reducible refine (CK.out w6).mono ?_); rintro e w7 ⟨rfl, hb7⟩; have HB7 := Lib.hid (below_next HB6.out HB6.out.size hb7); clear hb7) | (go_at_call 31; (with_reducible refine (CR.out _).mono ?_); rintro e w6 ⟨rfl, hb6⟩; have HB6 := Lib.hid (below_next HBd.out HBd.out.size hb6); clear hb6) | fail)
        have HW10 := Lib.hid (below_next HB5.out HB5.out.size HB10.out)
        have HV10 := Lib.hid (HV5.out.next HB10.out)
        have HA10 := Lib.hid (HA5.out.next HB10.out)
        have HI10 := Lib.hid ((HI5.out.below HB10.out).more (Nat.le_refl _) HB10.out.size)
        clear HI5 KC HBd HB6 HB7 HB8 HB9 HB10 HX5 HY5 HA5 HB5 HV5 hll hk1
        obtain ⟨a0, a1, a2, a3, a4⟩ := cells5 HA10.out
        go_upto_region 8 with (fail)
        go_wp2_with fail
        refine (CK.out w10).mono ?_
        rintro e w11 ⟨rfl, hb11⟩
        have HW11 := Lib.hid (below_next HW10.out HW10.out.size hb11)
        have HV11 := Lib.hid (HV10.out.next hb11)
        have HA11 := Lib.hid (HA10.out.next hb11)
        have HI11 := Lib.hid ((HI10.out.below hb11).more (Nat.le_refl _) hb11.size)
        clear HI10 hb11 a0 a1 a2 a3 a4 HW10 HV10 HA10
        have hk2 := HK2.out
        go_wp2_with fail
        have KD := Lib.hid (fun (W' : World) (h : Below w11.heap.size w11 W') => And.intro (cells5 (HA11.out.next h)) (cell4 (HV11.out.next h)))
        have HBe := Lib.hid (show Below w11.heap.size w11 w11.drew from (Below.refl _ w11).drew)
        have HTT : (T.toList == T.toList) = true := by simp
        obtain ⟨⟨a0, a1, a2, a3, a4⟩, v0, v1, v2, v3⟩ := KD.out w11 (Below.refl _ _)
        clear hk2 CL4 CAy CL CK CR
        go_region_held3 (fun w' => (w'.cell? ⟨ga, 0, none⟩ = some (.bool xi) ∧ w'.cell? ⟨ga, 1, none⟩ = some (.int .u64 xn) ∧ w'.cell? ⟨ga, 2, none⟩ = some (.int .u64 xs) ∧ w'.cell? ⟨ga, 3, none⟩ = some (.string xh) ∧ w'.cell? ⟨ga, 4, none⟩ = some (.string xd)) ∧ (w'.cell? ⟨w4.heap.size, 0, none⟩ = some (.int .i64 kb) ∧ w'.cell? ⟨w4.heap.size, 1, none⟩ = some (.int .u64 nb) ∧ w'.cell? ⟨w4.heap.size, 2, none⟩ = some (.slice Ab lb cb) ∧ w'.cell? ⟨w4.heap.size, 3, none⟩ = some (.slice Ab' lb' cb')))
          (first | with_reducible exact KD.out _ HBe.out | with_reducible exact KD.out _ HB12.out | with_reducible exact KD.out _ HB13.out | with_reducible exact KD.out _ HB14.out | with_reducible exact KD.out _ HB15.out | with_reducible exact KD.out _ HB16.out | fail)
          (first | (go_at_call 19; (with_reducible refine (CS.out _ _ w15 HIa15.out HIb15.out).mono ?_); rintro e w16 ⟨rfl, hb16⟩; have HB16 := Lib.hid (below_next HB15.out HB15.out.size hb16); clear hb16) | (go_at_call 36; (with_reducible refine (CW4'.out w14).mono ?_); rintro e w15 ⟨v15, rfl, HIb, hb15⟩; obtain ⟨k5, n5, A5, l5, c5, A6, l6, c6, rfl⟩ : ∃ k n A l c A' l' c', v15 = .agg #[.int .i64 k, .int .u64 n, .slice A l c, .slice A' l' c'] := (by obtain ⟨_, _, _, _, e, _⟩ := HIb.out.open_; exact ⟨_, _, _, _, _, _, _, _, e⟩); have HIb15 := HIb; have HIa15 := Lib.hid ((HIa.out.below hb15).more (Nat.le_refl _) hb15.size); have HB15 := Lib.hid (below_next HB14.out HB14.out.size hb15); clear hb15) | (go_at_call 14; (with_reducible refine (CAs.out _ w13 HI13.out).mono ?_); rintro e w14 ⟨k4, n4, A4, l4, c4, A4', l4', c4', rfl, HIa, hb14⟩; have HB14 := Lib.hid (below_next HB13.out HB13.out.size hb14); clear hb14) | (go_at_call 35; (with_reducible refine (CT4'.out w12).mono ?_); rintro e w13 ⟨rfl, hb13⟩; have HI13 := Lib.hid ((HI12.out.below hb13).more (Nat.le_refl _) hb13.size); have HB13 := Lib.hid (below_next HB12.out HB12.out.size hb13); clear hb13) | (go_at_call 27; (with_reducible refine (CA.out _ (CG.out _ (below_next HW11.out HW11.out.size HBe.out))).mono ?_); rintro e w12 ⟨rfl, hb12⟩; have HI12 := Lib.hid ((HI11.out.drew.below (show Below w11.heap.size w11.drew w12 from hb12)).more (Nat.le_refl _) (show w11.heap.size ≤ w12.heap.size from hb12.size)); have HB12 := Lib.hid (below_next HBe.out HBe.out.size hb12); clear hb12) | fail)
        go_wp2_with fail
        go_ret
        exact ⟨rfl, HBE.out _ (below_next HW11.out HW11.out.size HB16.out)⟩
end Go.Proofs.YtoieadbifhealaaDoor.EidWrites
