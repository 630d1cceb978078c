/- The statement CanonBack: the walk. -/
import Derived.Test.YthknkdphofjmhaaDoorZgl
import Derived.Test.YthknkdphofjmhaaDoorPev
import Derived.Test.YthknkdphofjmhaaDoorGreat
import Derived.Test.YthknkdphofjmhaaDoorZgn
import Derived.Deep.CutBlock
namespace Go.Proofs.YthknkdphofjmhaaDoor.CanonBack
open Go.RowKit Wd Cb Eid EncB Prim CbCopy CbList CbRight CbWrite CbSame CbRead CbShort CbLays CbOpen Can Great
attribute [local go_sem ↓ high] run_nm

theorem dec_of {p : Prop} [Decidable p] {r : Bool} (h : r = true ↔ p) : decide p = r := by
  cases r
  · exact decide_eq_false (fun q => by cases h.2 q)
  · exact decide_eq_true (h.1 rfl)
theorem dec3 {a m : Int} {r : Bool} (h : r = true ↔ (1 ≤ a ∧ a ≤ 255) ∧ m ≤ a) (p q s : Bool) (h1 : decide (1 ≤ a) = p) (h2 : decide (a ≤ 255) = q) (h3 : decide (m ≤ a) = s) : r = (p && (q && s)) := by
  subst h1
  subst h2
  subst h3
  rw [Bool.eq_iff_iff]
  simp only [Bool.and_eq_true, decide_eq_true_eq]
  exact h.trans ⟨fun x => ⟨x.1.1, x.1.2, x.2⟩, fun x => ⟨⟨x.1, x.2.1⟩, x.2.2⟩⟩
set_option maxRecDepth 100000 in
set_option maxHeartbeats 16000000 in
theorem walk (b : Cbk) (A : Option Addr) (c : Nat) (z : Itm) (zv : Value) (x : Nm) (a m : Int) (w : World) (hb : b.ok) (hc : b.dat.length ≤ c) (hm : c ≤ maxLen) (hs : Lst w w.heap.size A (u8s b.dat))
    (hz : ItemV w 0 w.heap.size z zv) (hx : x.ok) (ha : 0 ≤ a ∧ a ≤ 18446744073709551615) (hmm : 0 ≤ m ∧ m ≤ 18446744073709551615) (hT : Tabs w ∧ Sz w) :
    Calls Tryd.prog 4 #[cval b A c, zv, x.val, .int .u64 a, .int .u64 m] w fun e w' => e = .returned (.bool true) ∧ Below w.heap.size w w' := by
  have HTW := Lib.hid (fun (W : World) (h : Below w.heap.size w W) => And.intro (hT.1.below h (Nat.le_refl _)) (hT.2.below h (Nat.le_refl _)))
  have CAl := Lib.hid (fun (W : World) (h : Below w.heap.size w W) => alive07_any W (HTW.out W h).1 (HTW.out W h).2)
  have HSB := Lib.hid (fun (W : World) (h : Below w.heap.size w W) => (hs.below h).more h.size)
  have HZW := Lib.hid (fun (W : World) (h : Below w.heap.size w W) => (hz.below h).more (Nat.le_refl 0) h.size)
  have HOK := Lib.hid hb
  have HCM := Lib.hid (And.intro hc hm)
  obtain ⟨r, hr⟩ := bool_of (CRight b)
  have HR := Lib.hid hr
  obtain ⟨rz, hrz⟩ := bool_of (crP z)
  have HRZ := Lib.hid hrz
  obtain ⟨r1, hr1⟩ := bool_of (CRight (mblk 6 2 0 (nameI x)))
  have HR1 := Lib.hid hr1
  have CP := Lib.hid (fun (W : World) (h : Below w.heap.size w W) => ofPrevious_any 2 0 x hx W (HTW.out W h).1 r1 hr1)
  have HXO := Lib.hid (fun n h => name_only (n := n) hx h)
  have HXB := Lib.hid (nameI_bts x hx)
  have HXL := Lib.hid (nameI_len x)
  have HA := Lib.hid ha
  have HM := Lib.hid hmm
  obtain ⟨Z1, z1, Z2, z2, rfl, -⟩ := hz.open_
  clear hT hs hz hb hc hm hr hrz hr1 ha hmm hx
  generalize nameI x = NI at *
  obtain ⟨xi, xn, xs, xh, xd⟩ := x
  have HB0 := Lib.hid ((((Below.refl w.heap.size w).alloc (Nat.le_refl _) (.cells #[.int .u64 b.ty, .int .u64 b.no, .int .u64 b.fl, .int .i64 b.sm, .slice A b.dat.length c] 46)).alloc (by simp) (.cells #[.int .i64 z.kind, .int .u64 z.num, .slice Z1 z.bs.length z1, .slice Z2 z.sub.length z2] 26)).alloc (by simp; omega) (.cells #[.bool xi, .int .u64 xn, .int .u64 xs, .string xh, .string xd] 48))
  have Kz0 : Hid (Blk (((w.alloc (.cells #[.int .u64 b.ty, .int .u64 b.no, .int .u64 b.fl, .int .i64 b.sm, .slice A b.dat.length c] 46)).alloc (.cells #[.int .i64 z.kind, .int .u64 z.num, .slice Z1 z.bs.length z1, .slice Z2 z.sub.length z2] 26)).alloc (.cells #[.bool xi, .int .u64 xn, .int .u64 xs, .string xh, .string xd] 48)) (w.heap.size + 1) 26 #[.int .i64 z.kind, .int .u64 z.num, .slice Z1 z.bs.length z1, .slice Z2 z.sub.length z2]) := Lib.hid (by
    have h := Blk.new (w.alloc (.cells #[.int .u64 b.ty, .int .u64 b.no, .int .u64 b.fl, .int .i64 b.sm, .slice A b.dat.length c] 46)) 26 #[.int .i64 z.kind, .int .u64 z.num, .slice Z1 z.bs.length z1, .slice Z2 z.sub.length z2]
    rw [World.size_alloc] at h
    exact h.alloc _)
  have Kb0 := Lib.hid (((Blk.new w 46 #[.int .u64 b.ty, .int .u64 b.no, .int .u64 b.fl, .int .i64 b.sm, .slice A b.dat.length c]).alloc (.cells #[.int .i64 z.kind, .int .u64 z.num, .slice Z1 z.bs.length z1, .slice Z2 z.sub.length z2] 26)).alloc (.cells #[.bool xi, .int .u64 xn, .int .u64 xs, .string xh, .string xd] 48))
  have Kx0 : Hid (Blk (((w.alloc (.cells #[.int .u64 b.ty, .int .u64 b.no, .int .u64 b.fl, .int .i64 b.sm, .slice A b.dat.length c] 46)).alloc (.cells #[.int .i64 z.kind, .int .u64 z.num, .slice Z1 z.bs.length z1, .slice Z2 z.sub.length z2] 26)).alloc (.cells #[.bool xi, .int .u64 xn, .int .u64 xs, .string xh, .string xd] 48)) (w.heap.size + 1 + 1) 48 #[.bool xi, .int .u64 xn, .int .u64 xs, .string xh, .string xd]) := Lib.hid (by
    have h := Blk.new ((w.alloc (.cells #[.int .u64 b.ty, .int .u64 b.no, .int .u64 b.fl, .int .i64 b.sm, .slice A b.dat.length c] 46)).alloc (.cells #[.int .i64 z.kind, .int .u64 z.num, .slice Z1 z.bs.length z1, .slice Z2 z.sub.length z2] 26)) 48 #[.bool xi, .int .u64 xn, .int .u64 xs, .string xh, .string xd]
    rwa [World.size_alloc, World.size_alloc] at h)
  go_enter Tryd.func4, Tryd.ntmps4
  go_upto_region 1 with (fail)
  generalize ((w.alloc (.cells #[.int .u64 b.ty, .int .u64 b.no, .int .u64 b.fl, .int .i64 b.sm, .slice A b.dat.length c] 46)).alloc (.cells #[.int .i64 z.kind, .int .u64 z.num, .slice Z1 z.bs.length z1, .slice Z2 z.sub.length z2] 26)).alloc (.cells #[.bool xi, .int .u64 xn, .int .u64 xs, .string xh, .string xd] 48) = w0 at *
  go_cut [50] from 32 (fun p50 wx => ∃ q : Bool, p50 = .bool q ∧ Hid (Below w.heap.size w wx) ∧ Hid (Below w0.heap.size w0 wx) ∧ Hid (q = false → b.dat.length ≤ 400 ∧ (enc z).length ≤ 1203600 ∧ size z ≤ 400 ∧ deep z ≤ 9))
  case first =>
    obtain ⟨k0, k1, k2, k3, k4⟩ := cells5 Kb0.out
    obtain ⟨y0, y1, y2, y3⟩ := cells4 Kz0.out
    by_cases h1 : (400 : Int) < b.dat.length
    · have d1 : decide ((400 : Int) < b.dat.length) = true := decide_eq_true h1
      go_wp2_with fail
      go_meet
      exact ⟨_, rfl, HB0, Lib.hid (Below.refl _ _), Lib.hid (fun e => by cases e)⟩
    have d1 : decide ((400 : Int) < b.dat.length) = false := decide_eq_false h1
    go_wp2_with fail
    refine (great_rec (deep z) z _ 1 300 w0 (Nat.le_refl _) (HZW.out w0 HB0.out) (by decide) (by decide) (by decide) (by decide)).mono ?_
    rintro e w1 ⟨rfl, hb1⟩
    have HB1 := Lib.hid (below_next HB0.out HB0.out.size hb1)
    have HBb := Lib.hid hb1
    have Kx1 := Lib.hid (Kx0.out.next hb1)
    clear hb1 k0 k1 k2 k3 k4 y0 y1 y2 y3
    obtain ⟨j0, j1, j2, j3, j4⟩ := cells5 Kx1.out
    by_cases hg : grt z 1 300 < 0
    · have dg : decide (grt z 1 300 < 0) = true := decide_eq_true hg
      clear hg
      go_wp2_with fail
      go_meet
      exact ⟨_, rfl, HB1, HBb, Lib.hid (fun e => by cases e)⟩
    have dg : decide (grt z 1 300 < 0) = false := decide_eq_false hg
    have hok := grt_ok z 1 300 (by omega) (by omega) (by omega)
    have HGZ := Lib.hid (show b.dat.length ≤ 400 ∧ (enc z).length ≤ 1203600 ∧ size z ≤ 400 ∧ deep z ≤ 9 from ⟨by omega, by have := hok.1; have := hok.2.2; omega, by have := hok.1; omega, by have := hok.2.1; omega⟩)
    clear hok hg h1
    go_wp2_with fail
    go_meet
    exact ⟨_, rfl, HB1, HBb, Lib.hid (fun _ => HGZ.out)⟩
  obtain ⟨q, rfl, HBw, HBb, HQ⟩ := hcut
  have Kb1 := Lib.hid (Kb0.out.next HBb.out)
  have Kz1 := Lib.hid (Kz0.out.next HBb.out)
  have Kx1 := Lib.hid (Kx0.out.next HBb.out)
  clear HB0 Kb0 Kz0 Kx0 HBb
  generalize wc = w1 at *
  cases q
  rotate_left
  · go_wp2_with fail
    refine (CAl.out _ HBw.out).mono ?_
    rintro e wz ⟨rfl, hbz⟩
    have HBz := Lib.hid (below_next HBw.out HBw.out.size hbz)
    clear hbz
    go_wp2_with fail
    go_ret
    exact ⟨rfl, HBz.out⟩
  have hq := HQ.out rfl
  have HGZ := Lib.hid hq
  have HB1 := HBw
  clear HQ hq HBw
  go_upto_region 3 with (fail)
  obtain ⟨k0, k1, k2, k3, k4⟩ := cells5 Kb1.out
  go_wp2_with fail
  refine (uwrite_any b HOK.out A c w1 (HSB.out _ HB1.out) HCM.out.1 HCM.out.2 (HTW.out _ HB1.out).1 (HTW.out _ HB1.out).2 r HR.out).mono ?_
  rintro e w2 ⟨y, A2, n2, c2, yk, ey, rfl, HY, HYS, HYE, HYN, hb2⟩
  have HB2 := Lib.hid (below_next HB1.out HB1.out.size hb2)
  have Kb2 := Lib.hid (Kb1.out.next hb2)
  have Kz2 := Lib.hid (Kz1.out.next hb2)
  have Kx2 := Lib.hid (Kx1.out.next hb2)
  clear hb2 HB1 Kb1 Kz1 Kx1
  clear k0 k1 k2 k3 k4
  have Y2 := HY
  clear HY
  have hba := (Below.refl w2.heap.size w2).alloc (Nat.le_refl _) (.cells #[.int .i64 yk, .int .u64 0, .slice none 0 0, .slice A2 n2 c2] 26)
  have HB3 := Lib.hid (below_next HB2.out HB2.out.size hba)
  have Kb3 := Lib.hid (Kb2.out.next hba)
  have Kz3 := Lib.hid (Kz2.out.next hba)
  have Kx3 := Lib.hid (Kx2.out.next hba)
  have Y3 := Lib.hid ((Y2.out.below hba).more (Nat.le_refl _) hba.size)
  have Ky3 := Lib.hid (Blk.new w2 26 #[.int .i64 yk, .int .u64 0, .slice none 0 0, .slice A2 n2 c2])
  clear hba HB2 Kb2 Kz2 Kx2 Y2
  go_upto_region 4 with (fail)
  skip
  generalize w2.alloc (.cells #[.int .i64 yk, .int .u64 0, .slice none 0 0, .slice A2 n2 c2] 26) = w3 at *
  go_upto_if 58 with (fail)
  go_cut [] from 13 (fun wx => Hid (Below w3.heap.size w3 wx))
  case first =>
    cases r
    · obtain rfl := HYN.out rfl
      go_wp2_with fail
      go_meet
      exact Lib.hid (Below.refl _ _)
    have hcr := Lib.hid (HR.out.1 rfl)
    obtain ⟨rfl, rfl⟩ := HYE.out rfl
    clear HR HYE HYN
    have HG3 := Lib.hid (Below.refl w3.heap.size w3)
    obtain ⟨k0, k1, k2, k3⟩ := cells4 Ky3.out
    go_wp2_with fail
    refine (read_cw b hcr.out _ w3 Y3.out (HTW.out _ HB3.out).1 (HTW.out _ HB3.out).2).mono ?_
    rintro e w4 ⟨A3, c3, rfl, hl3, hm3, HS3, hb4⟩
    have HB4 := Lib.hid (below_next HB3.out HB3.out.size hb4)
    have HG4 := Lib.hid (below_next HG3.out HG3.out.size hb4)
    have Kb4 := Lib.hid (Kb3.out.next hb4)
    have Kz4 := Lib.hid (Kz3.out.next hb4)
    have Kx4 := Lib.hid (Kx3.out.next hb4)
    have Ky4 := Lib.hid (Ky3.out.next hb4)
    have Y4 := Lib.hid ((Y3.out.below hb4).more (Nat.le_refl _) hb4.size)
    clear hb4 HB3 Kb3 Kz3 Kx3 Ky3 Y3
    clear k0 k1 k2 k3
    have S34 := HS3
    clear HS3
    have hba := (Below.refl w4.heap.size w4).alloc (Nat.le_refl _) (.cells #[.int .u64 b.ty, .int .u64 b.no, .int .u64 b.fl, .int .i64 b.sm, .slice A3 b.dat.length c3] 46)
    have HB5 := Lib.hid (below_next HB4.out HB4.out.size hba)
    have HG5 := Lib.hid (below_next HG4.out HG4.out.size hba)
    have Kb5 := Lib.hid (Kb4.out.next hba)
    have Kz5 := Lib.hid (Kz4.out.next hba)
    have Kx5 := Lib.hid (Kx4.out.next hba)
    have Ky5 := Lib.hid (Ky4.out.next hba)
    have Y5 := Lib.hid ((Y4.out.below hba).more (Nat.le_refl _) hba.size)
    have S35 := Lib.hid ((S34.out.below hba).more (Nat.le_refl _) hba.size)
    have Kc5 := Lib.hid (Blk.new w4 46 #[.int .u64 b.ty, .int .u64 b.no, .int .u64 b.fl, .int .i64 b.sm, .slice A3 b.dat.length c3])
    clear hba HB4 Kb4 Kz4 Kx4 Ky4 Y4 S34
    go_upto_region 6 with (fail)
    generalize w4.alloc (.cells #[.int .u64 b.ty, .int .u64 b.no, .int .u64 b.fl, .int .i64 b.sm, .slice A3 b.dat.length c3] 46) = w5 at *
    obtain ⟨k0, k1, k2, k3, k4⟩ := cells5 Kb5.out
    obtain ⟨j0, j1, j2, j3, j4⟩ := cells5 Kc5.out
    go_wp2_with fail
    refine (csame_any b b HOK.out.d HOK.out.d A A3 w5.heap.size c c3 w5 (HSB.out _ HB5.out) (S35.out.more (Nat.zero_le _) (Nat.le_refl _)).lst (Nat.le_refl _)).mono ?_
    rintro e w6 ⟨rfl, hb6⟩
    rw [(csame_iff b b).2 rfl]
    have HB6 := Lib.hid (below_next HB5.out HB5.out.size hb6)
    have HG6 := Lib.hid (below_next HG5.out HG5.out.size hb6)
    have Kb6 := Lib.hid (Kb5.out.next hb6)
    have Kz6 := Lib.hid (Kz5.out.next hb6)
    have Kx6 := Lib.hid (Kx5.out.next hb6)
    have Ky6 := Lib.hid (Ky5.out.next hb6)
    have Kc6 := Lib.hid (Kc5.out.next hb6)
    have Y6 := Lib.hid ((Y5.out.below hb6).more (Nat.le_refl _) hb6.size)
    have S36 := Lib.hid ((S35.out.below hb6).more (Nat.le_refl _) hb6.size)
    clear hb6 HB5 Kb5 Kz5 Kx5 Ky5 Kc5 Y5 S35
    go_wp2_with fail
    go_meet
    exact HG6
  have hbc := hcut.out
  generalize wc = w4 at *
  have HB4 := Lib.hid (below_next HB3.out HB3.out.size hbc)
  have Kz4 := Lib.hid (Kz3.out.next hbc)
  have Kx4 := Lib.hid (Kx3.out.next hbc)
  clear hbc hcut HB3 Kb3 Ky3 Y3 Kz3 Kx3
  clear HR HYE HYN HYS HSB HCM HOK
  go_upto_region 8 with (fail)
  obtain ⟨k0, k1, k2, k3⟩ := cells4 Kz4.out
  go_wp2_with fail
  refine (uread_any z _ w4 (HZW.out _ HB4.out) (by have := HGZ.out.2.1; omega) (by have := HGZ.out.2.2.2; omega) (HTW.out _ HB4.out).1 (HTW.out _ HB4.out).2 rz HRZ.out).mono ?_
  rintro e w5 ⟨d, A4, c4, ez, rfl, HDO, HDL, HDC, HZY, HZN, hb5⟩
  have HB5 := Lib.hid (below_next HB4.out HB4.out.size hb5)
  have Kz5 := Lib.hid (Kz4.out.next hb5)
  have Kx5 := Lib.hid (Kx4.out.next hb5)
  clear hb5 HB4 Kz4 Kx4
  clear k0 k1 k2 k3
  have D5 := HDL
  clear HDL
  have hba := (Below.refl w5.heap.size w5).alloc (Nat.le_refl _) (.cells #[.int .u64 d.ty, .int .u64 d.no, .int .u64 d.fl, .int .i64 d.sm, .slice A4 d.dat.length c4] 46)
  have HB6 := Lib.hid (below_next HB5.out HB5.out.size hba)
  have Kz6 := Lib.hid (Kz5.out.next hba)
  have Kx6 := Lib.hid (Kx5.out.next hba)
  have D6 := Lib.hid ((D5.out.below hba).more hba.size)
  have Kd6 := Lib.hid (Blk.new w5 46 #[.int .u64 d.ty, .int .u64 d.no, .int .u64 d.fl, .int .i64 d.sm, .slice A4 d.dat.length c4])
  clear hba HB5 Kz5 Kx5 D5
  go_upto_region 9 with (fail)
  generalize w5.alloc (.cells #[.int .u64 d.ty, .int .u64 d.no, .int .u64 d.fl, .int .i64 d.sm, .slice A4 d.dat.length c4] 46) = w6 at *
  obtain ⟨k0, k1, k2, k3, k4⟩ := cells5 Kd6.out
  obtain ⟨rd, hrd⟩ := bool_of (CRight d)
  have HRD := Lib.hid hrd
  clear hrd
  go_wp2_with fail
  refine (uwrite_any d HDO.out A4 c4 w6 D6.out HDC.out.1 HDC.out.2 (HTW.out _ HB6.out).1 (HTW.out _ HB6.out).2 rd HRD.out).mono ?_
  rintro e w7 ⟨e, A5, n5, c5, ek, ee, rfl, HE, HES, HEE, HEN, hb7⟩
  have HB7 := Lib.hid (below_next HB6.out HB6.out.size hb7)
  have Kz7 := Lib.hid (Kz6.out.next hb7)
  have Kx7 := Lib.hid (Kx6.out.next hb7)
  have Kd7 := Lib.hid (Kd6.out.next hb7)
  have D7 := Lib.hid ((D6.out.below hb7).more hb7.size)
  clear hb7 HB6 Kz6 Kx6 Kd6 D6
  clear k0 k1 k2 k3 k4
  have E7 := HE
  clear HE
  clear Kd7 D7
  have hba := (Below.refl w7.heap.size w7).alloc (Nat.le_refl _) (.cells #[.int .i64 ek, .int .u64 0, .slice none 0 0, .slice A5 n5 c5] 26)
  have HB8 := Lib.hid (below_next HB7.out HB7.out.size hba)
  have Kz8 := Lib.hid (Kz7.out.next hba)
  have Kx8 := Lib.hid (Kx7.out.next hba)
  have E8 := Lib.hid ((E7.out.below hba).more (Nat.le_refl _) hba.size)
  have Ke8 := Lib.hid (Blk.new w7 26 #[.int .i64 ek, .int .u64 0, .slice none 0 0, .slice A5 n5 c5])
  clear hba HB7 Kz7 Kx7 E7
  go_upto_region 10 with (fail)
  generalize w7.alloc (.cells #[.int .i64 ek, .int .u64 0, .slice none 0 0, .slice A5 n5 c5] 26) = w8 at *
  go_cut [93] from 82 (fun p93 wx => p93 = .bool false ∧ Hid (Below w8.heap.size w8 wx))
  case first =>
    obtain ⟨k0, k1, k2, k3⟩ := cells4 Kz8.out
    obtain ⟨j0, j1, j2, j3⟩ := cells4 Ke8.out
    cases rz
    · have hne := HZN.out rfl
      have dne : (ez == 0) = false := by simpa using hne
      clear hne
      go_wp2_with fail
      go_meet
      exact ⟨rfl, Lib.hid (Below.refl _ _)⟩
    obtain ⟨rfl, hcd, hwz⟩ := HZY.out rfl
    obtain rfl : rd = true := HRD.out.2 hcd
    obtain ⟨rfl, rfl⟩ := HEE.out rfl
    have HWZ := Lib.hid hwz
    clear hcd hwz
    go_wp2_with fail
    refine (sameTop_any (cw d) z _ _ w8.heap.size w8 E8.out (HZW.out _ HB8.out) (Nat.le_refl _) (by have := HES.out.1; omega) (by have := HES.out.2.1; omega)).mono ?_
    rintro e w9 ⟨rfl, hb9⟩
    rw [(same_iff _ _).2 HWZ.out]
    have HGG := Lib.hid hb9
    have HB9 := Lib.hid (below_next HB8.out HB8.out.size hb9)
    have Kz9 := Lib.hid (Kz8.out.next hb9)
    have Kx9 := Lib.hid (Kx8.out.next hb9)
    have Ke9 := Lib.hid (Ke8.out.next hb9)
    have E9 := Lib.hid ((E8.out.below hb9).more (Nat.le_refl _) hb9.size)
    clear hb9 HB8 Kz8 Kx8 Ke8 E8
    go_wp2_with fail
    go_meet
    exact ⟨rfl, HGG⟩
  obtain ⟨rfl, hbc⟩ := hcut
  have hbc := hbc.out
  generalize wc = w9 at *
  have HB9 := Lib.hid (below_next HB8.out HB8.out.size hbc)
  have Kx9 := Lib.hid (Kx8.out.next hbc)
  clear hbc HB8 Kz8 Kx8 Ke8 E8
  clear HZY HZN HRD HDO HDC HES HEE HEN HZW HGZ HRZ
  go_upto_region 12 with (fail)
  obtain ⟨k0, k1, k2, k3, k4⟩ := cells5 Kx9.out
  go_wp2_with fail
  refine (CP.out w9 HB9.out).mono ?_
  rintro e w10 ⟨HMD, hb10⟩
  obtain ⟨d1, A6, c6, ed1, rfl, HDB1, HDL, HDC1, HDY1, HDN1⟩ := umade HMD HXB.out (by have := HXL.out; omega)
  have HB10 := Lib.hid (below_next HB9.out HB9.out.size hb10)
  have Kx10 := Lib.hid (Kx9.out.next hb10)
  clear hb10 HB9 Kx9
  clear k0 k1 k2 k3 k4
  clear HMD CP
  have D10 := HDL
  clear HDL
  have hba := (Below.refl w10.heap.size w10).alloc (Nat.le_refl _) (.cells #[.int .u64 d1.ty, .int .u64 d1.no, .int .u64 d1.fl, .int .i64 d1.sm, .slice A6 d1.dat.length c6] 46)
  have HB11 := Lib.hid (below_next HB10.out HB10.out.size hba)
  have Kx11 := Lib.hid (Kx10.out.next hba)
  have D11 := Lib.hid ((D10.out.below hba).more hba.size)
  have Kd11 := Lib.hid (Blk.new w10 46 #[.int .u64 d1.ty, .int .u64 d1.no, .int .u64 d1.fl, .int .i64 d1.sm, .slice A6 d1.dat.length c6])
  clear hba HB10 Kx10 D10
  go_upto_region 13 with (fail)
  generalize w10.alloc (.cells #[.int .u64 d1.ty, .int .u64 d1.no, .int .u64 d1.fl, .int .i64 d1.sm, .slice A6 d1.dat.length c6] 46) = w11 at *
  obtain ⟨k0, k1, k2, k3, k4⟩ := cells5 Kd11.out
  obtain ⟨s1, hs1⟩ := bool_of (CRight d1)
  have HS1 := Lib.hid hs1
  clear hs1
  go_wp2_with fail
  refine (prevOf_any d1 HDB1.out A6 w11.heap.size c6 w11 D11.out (Nat.le_refl _) HDC1.out.1 HDC1.out.2 (HTW.out _ HB11.out).1 s1 HS1.out).mono ?_
  rintro e w12 ⟨HPV, hb12⟩
  obtain ⟨⟨qi, qn, qs, qh, qd⟩, eq, rfl, HPE⟩ : ∃ (q : Nm) (eq : Int), e = .returned (.tuple #[q.val, .int .i64 eq]) ∧ Hid (r1 = true → eq = 0 ∧ q = ⟨xi, xn, xs, xh, xd⟩) := by
    cases r1
    · obtain ht := (HDN1.out rfl).2
      exact ⟨zeroNm, _, HPV.2 (fun h => by rw [ht] at h; exact absurd h.1 (by decide)), Lib.hid (fun e => by cases e)⟩
    · obtain rfl := (HDY1.out rfl).2
      have hs : s1 = true := HS1.out.2 (HR1.out.1 rfl)
      obtain ⟨nm, h1, h2⟩ := HPV.1 ⟨rfl, hs⟩
      exact ⟨nm, 0, h2, Lib.hid (fun _ => ⟨rfl, HXO.out nm h1⟩)⟩
  have HB12 := Lib.hid (below_next HB11.out HB11.out.size hb12)
  have Kx12 := Lib.hid (Kx11.out.next hb12)
  have Kd12 := Lib.hid (Kd11.out.next hb12)
  have D12 := Lib.hid ((D11.out.below hb12).more hb12.size)
  clear hb12 HB11 Kx11 Kd11 D11
  clear k0 k1 k2 k3 k4
  clear HPV
  clear Kd12 D12
  have HED1 := Lib.hid (And.intro (fun e => (HDY1.out e).1) (fun e => (HDN1.out e).1))
  clear HS1 HDY1 HDN1 HDC1 HDB1
  have hba := (Below.refl w12.heap.size w12).alloc (Nat.le_refl _) (.cells #[.bool qi, .int .u64 qn, .int .u64 qs, .string qh, .string qd] 48)
  have HB13 := Lib.hid (below_next HB12.out HB12.out.size hba)
  have Kx13 := Lib.hid (Kx12.out.next hba)
  have Kq13 := Lib.hid (Blk.new w12 48 #[.bool qi, .int .u64 qn, .int .u64 qs, .string qh, .string qd])
  clear hba HB12 Kx12
  go_upto_region 14 with (fail)
  generalize w12.alloc (.cells #[.bool qi, .int .u64 qn, .int .u64 qs, .string qh, .string qd] 48) = w13 at *
  obtain ⟨r2, hr2⟩ := bool_of (CRight (mblk 7 2 1 (iN a)))
  have HR2 := Lib.hid (hr2.trans (age_right 2 1 a (by decide) (by decide) HA.out.1 HA.out.2))
  have C2 := Lib.hid (ofAge_any 2 1 a w13 HA.out.1 HA.out.2 (HTW.out _ HB13.out).1 r2 hr2)
  have HR2C := Lib.hid hr2
  clear hr2
  go_wp2_with fail
  refine (C2.out).mono ?_
  rintro e w14 ⟨HMD, hb14⟩
  obtain ⟨d2, A7, c7, ed2, rfl, HDB2, HDL, HDC2, HDY2, HDN2⟩ := umade HMD (iN_bts a HA.out.1 HA.out.2) (by have := iN_len a; omega)
  have HB14 := Lib.hid (below_next HB13.out HB13.out.size hb14)
  have Kx14 := Lib.hid (Kx13.out.next hb14)
  have Kq14 := Lib.hid (Kq13.out.next hb14)
  clear hb14 HB13 Kx13 Kq13
  clear HMD C2
  have D14 := HDL
  clear HDL
  have hba := (Below.refl w14.heap.size w14).alloc (Nat.le_refl _) (.cells #[.int .u64 d2.ty, .int .u64 d2.no, .int .u64 d2.fl, .int .i64 d2.sm, .slice A7 d2.dat.length c7] 46)
  have HB15 := Lib.hid (below_next HB14.out HB14.out.size hba)
  have Kx15 := Lib.hid (Kx14.out.next hba)
  have Kq15 := Lib.hid (Kq14.out.next hba)
  have D15 := Lib.hid ((D14.out.below hba).more hba.size)
  have Kd15 := Lib.hid (Blk.new w14 46 #[.int .u64 d2.ty, .int .u64 d2.no, .int .u64 d2.fl, .int .i64 d2.sm, .slice A7 d2.dat.length c7])
  clear hba HB14 Kx14 Kq14 D14
  go_upto_region 15 with (fail)
  generalize w14.alloc (.cells #[.int .u64 d2.ty, .int .u64 d2.no, .int .u64 d2.fl, .int .i64 d2.sm, .slice A7 d2.dat.length c7] 46) = w15 at *
  obtain ⟨k0, k1, k2, k3, k4⟩ := cells5 Kd15.out
  obtain ⟨s2, hs2⟩ := bool_of (CRight d2)
  have HS2 := Lib.hid hs2
  clear hs2
  go_wp2_with fail
  refine (ageOf_any d2 HDB2.out A7 w15.heap.size c7 w15 D15.out (Nat.le_refl _) HDC2.out.1 HDC2.out.2 (HTW.out _ HB15.out).1 s2 HS2.out).mono ?_
  rintro e w16 ⟨HPV, hb16⟩
  obtain ⟨ka, el, rfl, HAE⟩ : ∃ (ka el : Int), e = .returned (.tuple #[.int .u64 ka, .int .i64 el]) ∧ Hid (r2 = true → el = 0 ∧ ka = a) := by
    cases r2
    · obtain ht := (HDN2.out rfl).2
      exact ⟨0, _, HPV.2 (fun h => by rw [ht] at h; exact absurd h.1 (by decide)), Lib.hid (fun e => by cases e)⟩
    · obtain rfl := (HDY2.out rfl).2
      have hs : s2 = true := HS2.out.2 (HR2C.out.1 rfl)
      obtain ⟨k, h1, h2⟩ := HPV.1 ⟨rfl, hs⟩
      exact ⟨k, 0, h2, Lib.hid (fun _ => ⟨rfl, age_only HA.out.1 HA.out.2 h1⟩)⟩
  have HB16 := Lib.hid (below_next HB15.out HB15.out.size hb16)
  have Kx16 := Lib.hid (Kx15.out.next hb16)
  have Kq16 := Lib.hid (Kq15.out.next hb16)
  have Kd16 := Lib.hid (Kd15.out.next hb16)
  have D16 := Lib.hid ((D15.out.below hb16).more hb16.size)
  clear hb16 HB15 Kx15 Kq15 Kd15 D15
  clear k0 k1 k2 k3 k4
  clear HPV
  clear Kd16 D16
  have HED2 := Lib.hid (And.intro (fun e => (HDY2.out e).1) (fun e => (HDN2.out e).1))
  clear HS2 HDY2 HDN2 HDC2 HDB2 HR2C
  go_upto_region 16 with (fail)
  obtain ⟨r3, hr3⟩ := bool_of (CRight (mblk 10 2 2 (iL (iN a) (iN m))))
  have HR3 := Lib.hid (hr3.trans (hops_right 2 2 a m (by decide) (by decide) HA.out HM.out))
  have C3 := Lib.hid (ofHops_any 2 2 a m w16 HA.out HM.out (HTW.out _ HB16.out).1 r3 hr3)
  have HR3C := Lib.hid hr3
  clear hr3
  go_wp2_with fail
  refine (C3.out).mono ?_
  rintro e w17 ⟨HMD, hb17⟩
  obtain ⟨d3, A8, c8, ed3, rfl, HDB3, HDL, HDC3, HDY3, HDN3⟩ := umade HMD (iLL_bts a m HA.out HM.out) (by have := iLL_len a m; omega)
  have HB17 := Lib.hid (below_next HB16.out HB16.out.size hb17)
  have Kx17 := Lib.hid (Kx16.out.next hb17)
  have Kq17 := Lib.hid (Kq16.out.next hb17)
  clear hb17 HB16 Kx16 Kq16
  clear HMD C3
  have D17 := HDL
  clear HDL
  have hba := (Below.refl w17.heap.size w17).alloc (Nat.le_refl _) (.cells #[.int .u64 d3.ty, .int .u64 d3.no, .int .u64 d3.fl, .int .i64 d3.sm, .slice A8 d3.dat.length c8] 46)
  have HB18 := Lib.hid (below_next HB17.out HB17.out.size hba)
  have Kx18 := Lib.hid (Kx17.out.next hba)
  have Kq18 := Lib.hid (Kq17.out.next hba)
  have D18 := Lib.hid ((D17.out.below hba).more hba.size)
  have Kd18 := Lib.hid (Blk.new w17 46 #[.int .u64 d3.ty, .int .u64 d3.no, .int .u64 d3.fl, .int .i64 d3.sm, .slice A8 d3.dat.length c8])
  clear hba HB17 Kx17 Kq17 D17
  go_upto_region 17 with (fail)
  generalize w17.alloc (.cells #[.int .u64 d3.ty, .int .u64 d3.no, .int .u64 d3.fl, .int .i64 d3.sm, .slice A8 d3.dat.length c8] 46) = w18 at *
  obtain ⟨k0, k1, k2, k3, k4⟩ := cells5 Kd18.out
  obtain ⟨s3, hs3⟩ := bool_of (CRight d3)
  have HS3 := Lib.hid hs3
  clear hs3
  go_wp2_with fail
  refine (hopsOf_any d3 HDB3.out A8 w18.heap.size c8 w18 D18.out (Nat.le_refl _) HDC3.out.1 HDC3.out.2 (HTW.out _ HB18.out).1 s3 HS3.out).mono ?_
  rintro e w19 ⟨HPV, hb19⟩
  obtain ⟨ku, kv, eh, rfl, HHE⟩ : ∃ (ku kv eh : Int), e = .returned (.tuple #[.int .u64 ku, .int .u64 kv, .int .i64 eh]) ∧ Hid (r3 = true → eh = 0 ∧ ku = a ∧ kv = m) := by
    cases r3
    · obtain ht := (HDN3.out rfl).2
      exact ⟨0, 0, _, HPV.2 (fun h => by rw [ht] at h; exact absurd h.1 (by decide)), Lib.hid (fun e => by cases e)⟩
    · obtain rfl := (HDY3.out rfl).2
      have hs : s3 = true := HS3.out.2 (HR3C.out.1 rfl)
      obtain ⟨k, l, h1, h2⟩ := HPV.1 ⟨rfl, hs⟩
      obtain ⟨h3, h4⟩ := hops_only HA.out HM.out h1
      exact ⟨k, l, 0, h2, Lib.hid (fun _ => ⟨rfl, h3, h4⟩)⟩
  have HB19 := Lib.hid (below_next HB18.out HB18.out.size hb19)
  have Kx19 := Lib.hid (Kx18.out.next hb19)
  have Kq19 := Lib.hid (Kq18.out.next hb19)
  have Kd19 := Lib.hid (Kd18.out.next hb19)
  have D19 := Lib.hid ((D18.out.below hb19).more hb19.size)
  clear hb19 HB18 Kx18 Kq18 Kd18 D18
  clear k0 k1 k2 k3 k4
  clear HPV
  clear Kd19 D19
  have HED3 := Lib.hid (And.intro (fun e => (HDY3.out e).1) (fun e => (HDN3.out e).1))
  clear HS3 HDY3 HDN3 HDC3 HDB3 HR3C
  go_upto_region 18 with (fail)
  simp only [List.append_eq, List.cons_append, List.nil_append]
  refine wp_region_lit ?_
  refine wpList_plain rfl fun K hK => ?_
  go_simp
  refine (CAl.out _ HB19.out).mono ?_
  rintro e w20 ⟨rfl, hb20⟩
  have HB20 := Lib.hid (below_next HB19.out HB19.out.size hb20)
  have Kx20 := Lib.hid (Kx19.out.next hb20)
  have Kq20 := Lib.hid (Kq19.out.next hb20)
  clear hb20 HB19 Kx19 Kq19
  refine hK _ _ ?_
  clear hK K
  obtain ⟨k0, k1, k2, k3, k4⟩ := cells5 Kx20.out
  obtain ⟨j0, j1, j2, j3, j4⟩ := cells5 Kq20.out
  have HNM := nmEq_self ⟨xi, xn, xs, xh, xd⟩
  have HBf := HB20
  have HDA := Lib.hid (dec_of HR2.out)
  have HD3 := Lib.hid (dec3 HR3.out)
  clear HNM HR1 HR2 HR3 HXO HXB HXL HA HM CAl HTW
  obtain ⟨B129, hB129⟩ : ∃ B : Bool, Hid (Pev.cmpI .neq ed1 0 = some B) := ⟨_, Lib.hid rfl⟩
  obtain ⟨B132, hB132⟩ : ∃ B : Bool, Hid (Pev.cmpI .eql eq 0 = some B) := ⟨_, Lib.hid rfl⟩
  obtain ⟨B136, hB136⟩ : ∃ B : Bool, Hid (nmEq ⟨qi, qn, qs, qh, qd⟩ ⟨xi, xn, xs, xh, xd⟩ = B) := ⟨_, Lib.hid rfl⟩
  obtain ⟨B142, hB142⟩ : ∃ B : Bool, Hid (Pev.cmpI .eql ed2 0 = some B) := ⟨_, Lib.hid rfl⟩
  obtain ⟨B144, hB144⟩ : ∃ B : Bool, Hid (Pev.cmpI .leq a 1099511627776 = some B) := ⟨_, Lib.hid rfl⟩
  obtain ⟨B149, hB149⟩ : ∃ B : Bool, Hid (Pev.cmpI .neq ed2 0 = some B) := ⟨_, Lib.hid rfl⟩
  obtain ⟨B152, hB152⟩ : ∃ B : Bool, Hid (Pev.cmpI .eql el 0 = some B) := ⟨_, Lib.hid rfl⟩
  obtain ⟨B156, hB156⟩ : ∃ B : Bool, Hid (Pev.cmpI .eql ka a = some B) := ⟨_, Lib.hid rfl⟩
  obtain ⟨B162, hB162⟩ : ∃ B : Bool, Hid (Pev.cmpI .eql ed3 0 = some B) := ⟨_, Lib.hid rfl⟩
  obtain ⟨B164, hB164⟩ : ∃ B : Bool, Hid (Pev.cmpI .geq a 1 = some B) := ⟨_, Lib.hid rfl⟩
  obtain ⟨B167, hB167⟩ : ∃ B : Bool, Hid (Pev.cmpI .leq a 255 = some B) := ⟨_, Lib.hid rfl⟩
  obtain ⟨B172, hB172⟩ : ∃ B : Bool, Hid (Pev.cmpI .leq m a = some B) := ⟨_, Lib.hid rfl⟩
  obtain ⟨B178, hB178⟩ : ∃ B : Bool, Hid (Pev.cmpI .neq ed3 0 = some B) := ⟨_, Lib.hid rfl⟩
  obtain ⟨B181, hB181⟩ : ∃ B : Bool, Hid (Pev.cmpI .eql eh 0 = some B) := ⟨_, Lib.hid rfl⟩
  obtain ⟨B185, hB185⟩ : ∃ B : Bool, Hid (Pev.cmpI .eql ku a = some B) := ⟨_, Lib.hid rfl⟩
  obtain ⟨B190, hB190⟩ : ∃ B : Bool, Hid (Pev.cmpI .eql kv m = some B) := ⟨_, Lib.hid rfl⟩
  have HLQ := Lib.hid (And.intro j0 (And.intro j1 (And.intro j2 (And.intro j3 j4))))
  have HLX := Lib.hid (And.intro k0 (And.intro k1 (And.intro k2 (And.intro k3 k4))))
  clear j0 j1 j2 j3 j4 k0 k1 k2 k3 k4
  refine Pev.rest1 4 (by kernel_rfl) ([(128, .int .i64 ed1), (129, .bool B129), (131, .int .i64 eq), (132, .bool B132), (134, .agg #[.bool qi, .int .u64 qn, .int .u64 qs, .string qh, .string qd]), (135, .agg #[.bool xi, .int .u64 xn, .int .u64 xs, .string xh, .string xd]), (136, .bool B136), (141, .int .i64 ed2), (142, .bool B142), (143, .int .u64 a), (144, .bool B144), (148, .int .i64 ed2), (149, .bool B149), (151, .int .i64 el), (152, .bool B152), (154, .int .u64 ka), (155, .int .u64 a), (156, .bool B156), (161, .int .i64 ed3), (162, .bool B162), (163, .int .u64 a), (164, .bool B164), (166, .int .u64 a), (167, .bool B167), (170, .int .u64 m), (171, .int .u64 a), (172, .bool B172), (177, .int .i64 ed3), (178, .bool B178), (180, .int .i64 eh), (181, .bool B181), (183, .int .u64 ku), (184, .int .u64 a), (185, .bool B185), (188, .int .u64 kv), (189, .int .u64 m), (190, .bool B190)]) [2, 3, 5, 6, 8, 9, 10, 15, 16, 17, 18, 22, 23, 25, 26, 28, 29, 30, 35, 36, 37, 38, 40, 41, 44, 45, 46, 51, 52, 54, 55, 57, 58, 59, 62, 63, 64] 194 10 true ?ob (by kernel_rfl) ?ev ?fin
  case ob =>
    simp only [List.forall_mem_cons]
    refine ⟨?_, ?_, ?_, ?_, ?_, ?_, ?_, ?_, ?_, ?_, ?_, ?_, ?_, ?_, ?_, ?_, ?_, ?_, ?_, ?_, ?_, ?_, ?_, ?_, ?_, ?_, ?_, ?_, ?_, ?_, ?_, ?_, ?_, ?_, ?_, ?_, ?_, fun _ h => by cases h⟩
    · exact Pev.ob_move 128 (Operand.tmp 20) (.int .i64 ed1) (by kernel_rfl) (by kernel_rfl) (by kernel_rfl)
    · exact Pev.ob_cmp 129 .neq 29 (Operand.tmp 128) (Operand.const (Value.int IntKind.i64 0)) 29 .i64 ed1 0 B129 (by kernel_rfl) (by kernel_rfl) (by kernel_rfl) (by kernel_rfl) hB129.out
    · exact Pev.ob_move 131 (Operand.tmp 22) (.int .i64 eq) (by kernel_rfl) (by kernel_rfl) (by kernel_rfl)
    · exact Pev.ob_cmp 132 .eql 29 (Operand.tmp 131) (Operand.const (Value.int IntKind.i64 0)) 29 .i64 eq 0 B132 (by kernel_rfl) (by kernel_rfl) (by kernel_rfl) (by kernel_rfl) hB132.out
    · exact Pev.ob_load 134 48 (Operand.tmp 21) (.pointer (some ⟨w12.heap.size, 0, none⟩)) (.agg #[.bool qi, .int .u64 qn, .int .u64 qs, .string qh, .string qd]) (by kernel_rfl) (by kernel_rfl) (by kernel_rfl) (by obtain ⟨j0, j1, j2, j3, j4⟩ := HLQ.out; go_simp)
    · exact Pev.ob_load 135 48 (Operand.tmp 7) (.pointer (some ⟨w.heap.size + 1 + 1, 0, none⟩)) (.agg #[.bool xi, .int .u64 xn, .int .u64 xs, .string xh, .string xd]) (by kernel_rfl) (by kernel_rfl) (by kernel_rfl) (by obtain ⟨k0, k1, k2, k3, k4⟩ := HLX.out; go_simp)
    · exact Pev.ob_bin 136 .eql 48 (Operand.tmp 134) (Operand.tmp 135) 48 (.agg #[.bool qi, .int .u64 qn, .int .u64 qs, .string qh, .string qd]) (.agg #[.bool xi, .int .u64 xn, .int .u64 xs, .string xh, .string xd]) (.bool B136) (by kernel_rfl) (by kernel_rfl) (by kernel_rfl) (by kernel_rfl) (by go_simp) (by rw [← hB136.out]; go_simp)
    · exact Pev.ob_move 141 (Operand.tmp 24) (.int .i64 ed2) (by kernel_rfl) (by kernel_rfl) (by kernel_rfl)
    · exact Pev.ob_cmp 142 .eql 29 (Operand.tmp 141) (Operand.const (Value.int IntKind.i64 0)) 29 .i64 ed2 0 B142 (by kernel_rfl) (by kernel_rfl) (by kernel_rfl) (by kernel_rfl) hB142.out
    · exact Pev.ob_move 143 (Operand.tmp 3) (.int .u64 a) (by kernel_rfl) (by kernel_rfl) (by kernel_rfl)
    · exact Pev.ob_cmp 144 .leq 22 (Operand.tmp 143) (Operand.const (Value.int IntKind.u64 1099511627776)) 22 .u64 a 1099511627776 B144 (by kernel_rfl) (by kernel_rfl) (by kernel_rfl) (by kernel_rfl) hB144.out
    · exact Pev.ob_move 148 (Operand.tmp 24) (.int .i64 ed2) (by kernel_rfl) (by kernel_rfl) (by kernel_rfl)
    · exact Pev.ob_cmp 149 .neq 29 (Operand.tmp 148) (Operand.const (Value.int IntKind.i64 0)) 29 .i64 ed2 0 B149 (by kernel_rfl) (by kernel_rfl) (by kernel_rfl) (by kernel_rfl) hB149.out
    · exact Pev.ob_move 151 (Operand.tmp 26) (.int .i64 el) (by kernel_rfl) (by kernel_rfl) (by kernel_rfl)
    · exact Pev.ob_cmp 152 .eql 29 (Operand.tmp 151) (Operand.const (Value.int IntKind.i64 0)) 29 .i64 el 0 B152 (by kernel_rfl) (by kernel_rfl) (by kernel_rfl) (by kernel_rfl) hB152.out
    · exact Pev.ob_move 154 (Operand.tmp 25) (.int .u64 ka) (by kernel_rfl) (by kernel_rfl) (by kernel_rfl)
    · exact Pev.ob_move 155 (Operand.tmp 3) (.int .u64 a) (by kernel_rfl) (by kernel_rfl) (by kernel_rfl)
    · exact Pev.ob_cmp 156 .eql 22 (Operand.tmp 154) (Operand.tmp 155) 22 .u64 ka a B156 (by kernel_rfl) (by kernel_rfl) (by kernel_rfl) (by kernel_rfl) hB156.out
    · exact Pev.ob_move 161 (Operand.tmp 28) (.int .i64 ed3) (by kernel_rfl) (by kernel_rfl) (by kernel_rfl)
    · exact Pev.ob_cmp 162 .eql 29 (Operand.tmp 161) (Operand.const (Value.int IntKind.i64 0)) 29 .i64 ed3 0 B162 (by kernel_rfl) (by kernel_rfl) (by kernel_rfl) (by kernel_rfl) hB162.out
    · exact Pev.ob_move 163 (Operand.tmp 3) (.int .u64 a) (by kernel_rfl) (by kernel_rfl) (by kernel_rfl)
    · exact Pev.ob_cmp 164 .geq 22 (Operand.tmp 163) (Operand.const (Value.int IntKind.u64 1)) 22 .u64 a 1 B164 (by kernel_rfl) (by kernel_rfl) (by kernel_rfl) (by kernel_rfl) hB164.out
    · exact Pev.ob_move 166 (Operand.tmp 3) (.int .u64 a) (by kernel_rfl) (by kernel_rfl) (by kernel_rfl)
    · exact Pev.ob_cmp 167 .leq 22 (Operand.tmp 166) (Operand.const (Value.int IntKind.u64 255)) 22 .u64 a 255 B167 (by kernel_rfl) (by kernel_rfl) (by kernel_rfl) (by kernel_rfl) hB167.out
    · exact Pev.ob_move 170 (Operand.tmp 4) (.int .u64 m) (by kernel_rfl) (by kernel_rfl) (by kernel_rfl)
    · exact Pev.ob_move 171 (Operand.tmp 3) (.int .u64 a) (by kernel_rfl) (by kernel_rfl) (by kernel_rfl)
    · exact Pev.ob_cmp 172 .leq 22 (Operand.tmp 170) (Operand.tmp 171) 22 .u64 m a B172 (by kernel_rfl) (by kernel_rfl) (by kernel_rfl) (by kernel_rfl) hB172.out
    · exact Pev.ob_move 177 (Operand.tmp 28) (.int .i64 ed3) (by kernel_rfl) (by kernel_rfl) (by kernel_rfl)
    · exact Pev.ob_cmp 178 .neq 29 (Operand.tmp 177) (Operand.const (Value.int IntKind.i64 0)) 29 .i64 ed3 0 B178 (by kernel_rfl) (by kernel_rfl) (by kernel_rfl) (by kernel_rfl) hB178.out
    · exact Pev.ob_move 180 (Operand.tmp 31) (.int .i64 eh) (by kernel_rfl) (by kernel_rfl) (by kernel_rfl)
    · exact Pev.ob_cmp 181 .eql 29 (Operand.tmp 180) (Operand.const (Value.int IntKind.i64 0)) 29 .i64 eh 0 B181 (by kernel_rfl) (by kernel_rfl) (by kernel_rfl) (by kernel_rfl) hB181.out
    · exact Pev.ob_move 183 (Operand.tmp 29) (.int .u64 ku) (by kernel_rfl) (by kernel_rfl) (by kernel_rfl)
    · exact Pev.ob_move 184 (Operand.tmp 3) (.int .u64 a) (by kernel_rfl) (by kernel_rfl) (by kernel_rfl)
    · exact Pev.ob_cmp 185 .eql 22 (Operand.tmp 183) (Operand.tmp 184) 22 .u64 ku a B185 (by kernel_rfl) (by kernel_rfl) (by kernel_rfl) (by kernel_rfl) hB185.out
    · exact Pev.ob_move 188 (Operand.tmp 30) (.int .u64 kv) (by kernel_rfl) (by kernel_rfl) (by kernel_rfl)
    · exact Pev.ob_move 189 (Operand.tmp 4) (.int .u64 m) (by kernel_rfl) (by kernel_rfl) (by kernel_rfl)
    · exact Pev.ob_cmp 190 .eql 22 (Operand.tmp 188) (Operand.tmp 189) 22 .u64 kv m B190 (by kernel_rfl) (by kernel_rfl) (by kernel_rfl) (by kernel_rfl) hB190.out
  case ev =>
    cases r1
    · obtain rfl : ed1 = 3 := HED1.out.2 rfl
      obtain rfl : B129 = true := Option.some.inj (hB129.out.symm.trans (by rfl))
      cases r2
      · obtain rfl : ed2 = 3 := HED2.out.2 rfl
        obtain rfl : B142 = false := Option.some.inj (hB142.out.symm.trans (by rfl))
        obtain rfl : B149 = true := Option.some.inj (hB149.out.symm.trans (by rfl))
        obtain rfl : B144 = false := (Option.some.inj hB144.out).symm.trans HDA.out
        cases r3
        · obtain rfl : ed3 = 3 := HED3.out.2 rfl
          obtain rfl : B162 = false := Option.some.inj (hB162.out.symm.trans (by rfl))
          obtain rfl : B178 = true := Option.some.inj (hB178.out.symm.trans (by rfl))
          have q1 := Option.some.inj hB164.out
          have q2 := Option.some.inj hB167.out
          have q3 := Option.some.inj hB172.out
          have hd := HD3.out B164 B167 B172 q1 q2 q3
          clear q1 q2 q3 hB164 hB167 hB172
          cases B164
          · (show _ = _; kernel_rfl)
          cases B167
          · (show _ = _; kernel_rfl)
          cases B172
          · (show _ = _; kernel_rfl)
          · cases hd
        · obtain rfl : ed3 = 0 := HED3.out.1 rfl
          obtain ⟨rfl, hku, hkv⟩ := HHE.out rfl
          obtain rfl : B162 = true := Option.some.inj (hB162.out.symm.trans (by rfl))
          obtain rfl : B178 = false := Option.some.inj (hB178.out.symm.trans (by rfl))
          obtain rfl : B181 = true := Option.some.inj (hB181.out.symm.trans (by rfl))
          have q1 := Option.some.inj hB164.out
          have q2 := Option.some.inj hB167.out
          have q3 := Option.some.inj hB172.out
          have hd := HD3.out B164 B167 B172 q1 q2 q3
          clear q1 q2 q3 hB164 hB167 hB172
          obtain rfl : B185 = true := Option.some.inj (hB185.out.symm.trans (by simp [Pev.cmpI, hku]))
          obtain rfl : B190 = true := Option.some.inj (hB190.out.symm.trans (by simp [Pev.cmpI, hkv]))
          cases B164
          · cases hd
          cases B167
          · cases hd
          cases B172
          · cases hd
          · (show _ = _; kernel_rfl)
      · obtain rfl : ed2 = 0 := HED2.out.1 rfl
        obtain ⟨rfl, hka⟩ := HAE.out rfl
        obtain rfl : B142 = true := Option.some.inj (hB142.out.symm.trans (by rfl))
        obtain rfl : B149 = false := Option.some.inj (hB149.out.symm.trans (by rfl))
        obtain rfl : B152 = true := Option.some.inj (hB152.out.symm.trans (by rfl))
        obtain rfl : B144 = true := (Option.some.inj hB144.out).symm.trans HDA.out
        obtain rfl : B156 = true := Option.some.inj (hB156.out.symm.trans (by simp [Pev.cmpI, hka]))
        cases r3
        · obtain rfl : ed3 = 3 := HED3.out.2 rfl
          obtain rfl : B162 = false := Option.some.inj (hB162.out.symm.trans (by rfl))
          obtain rfl : B178 = true := Option.some.inj (hB178.out.symm.trans (by rfl))
          have q1 := Option.some.inj hB164.out
          have q2 := Option.some.inj hB167.out
          have q3 := Option.some.inj hB172.out
          have hd := HD3.out B164 B167 B172 q1 q2 q3
          clear q1 q2 q3 hB164 hB167 hB172
          cases B164
          · (show _ = _; kernel_rfl)
          cases B167
          · (show _ = _; kernel_rfl)
          cases B172
          · (show _ = _; kernel_rfl)
          · cases hd
        · obtain rfl : ed3 = 0 := HED3.out.1 rfl
          obtain ⟨rfl, hku, hkv⟩ := HHE.out rfl
          obtain rfl : B162 = true := Option.some.inj (hB162.out.symm.trans (by rfl))
          obtain rfl : B178 = false := Option.some.inj (hB178.out.symm.trans (by rfl))
          obtain rfl : B181 = true := Option.some.inj (hB181.out.symm.trans (by rfl))
          have q1 := Option.some.inj hB164.out
          have q2 := Option.some.inj hB167.out
          have q3 := Option.some.inj hB172.out
          have hd := HD3.out B164 B167 B172 q1 q2 q3
          clear q1 q2 q3 hB164 hB167 hB172
          obtain rfl : B185 = true := Option.some.inj (hB185.out.symm.trans (by simp [Pev.cmpI, hku]))
          obtain rfl : B190 = true := Option.some.inj (hB190.out.symm.trans (by simp [Pev.cmpI, hkv]))
          cases B164
          · cases hd
          cases B167
          · cases hd
          cases B172
          · cases hd
          · (show _ = _; kernel_rfl)
    · obtain rfl : ed1 = 0 := HED1.out.1 rfl
      obtain ⟨rfl, hq⟩ := HPE.out rfl
      obtain rfl : B129 = false := Option.some.inj (hB129.out.symm.trans (by rfl))
      obtain rfl : B132 = true := Option.some.inj (hB132.out.symm.trans (by rfl))
      obtain rfl : B136 = true := hB136.out.symm.trans (by rw [hq]; exact nmEq_self _)
      cases r2
      · obtain rfl : ed2 = 3 := HED2.out.2 rfl
        obtain rfl : B142 = false := Option.some.inj (hB142.out.symm.trans (by rfl))
        obtain rfl : B149 = true := Option.some.inj (hB149.out.symm.trans (by rfl))
        obtain rfl : B144 = false := (Option.some.inj hB144.out).symm.trans HDA.out
        cases r3
        · obtain rfl : ed3 = 3 := HED3.out.2 rfl
          obtain rfl : B162 = false := Option.some.inj (hB162.out.symm.trans (by rfl))
          obtain rfl : B178 = true := Option.some.inj (hB178.out.symm.trans (by rfl))
          have q1 := Option.some.inj hB164.out
          have q2 := Option.some.inj hB167.out
          have q3 := Option.some.inj hB172.out
          have hd := HD3.out B164 B167 B172 q1 q2 q3
          clear q1 q2 q3 hB164 hB167 hB172
          cases B164
          · (show _ = _; kernel_rfl)
          cases B167
          · (show _ = _; kernel_rfl)
          cases B172
          · (show _ = _; kernel_rfl)
          · cases hd
        · obtain rfl : ed3 = 0 := HED3.out.1 rfl
          obtain ⟨rfl, hku, hkv⟩ := HHE.out rfl
          obtain rfl : B162 = true := Option.some.inj (hB162.out.symm.trans (by rfl))
          obtain rfl : B178 = false := Option.some.inj (hB178.out.symm.trans (by rfl))
          obtain rfl : B181 = true := Option.some.inj (hB181.out.symm.trans (by rfl))
          have q1 := Option.some.inj hB164.out
          have q2 := Option.some.inj hB167.out
          have q3 := Option.some.inj hB172.out
          have hd := HD3.out B164 B167 B172 q1 q2 q3
          clear q1 q2 q3 hB164 hB167 hB172
          obtain rfl : B185 = true := Option.some.inj (hB185.out.symm.trans (by simp [Pev.cmpI, hku]))
          obtain rfl : B190 = true := Option.some.inj (hB190.out.symm.trans (by simp [Pev.cmpI, hkv]))
          cases B164
          · cases hd
          cases B167
          · cases hd
          cases B172
          · cases hd
          · (show _ = _; kernel_rfl)
      · obtain rfl : ed2 = 0 := HED2.out.1 rfl
        obtain ⟨rfl, hka⟩ := HAE.out rfl
        obtain rfl : B142 = true := Option.some.inj (hB142.out.symm.trans (by rfl))
        obtain rfl : B149 = false := Option.some.inj (hB149.out.symm.trans (by rfl))
        obtain rfl : B152 = true := Option.some.inj (hB152.out.symm.trans (by rfl))
        obtain rfl : B144 = true := (Option.some.inj hB144.out).symm.trans HDA.out
        obtain rfl : B156 = true := Option.some.inj (hB156.out.symm.trans (by simp [Pev.cmpI, hka]))
        cases r3
        · obtain rfl : ed3 = 3 := HED3.out.2 rfl
          obtain rfl : B162 = false := Option.some.inj (hB162.out.symm.trans (by rfl))
          obtain rfl : B178 = true := Option.some.inj (hB178.out.symm.trans (by rfl))
          have q1 := Option.some.inj hB164.out
          have q2 := Option.some.inj hB167.out
          have q3 := Option.some.inj hB172.out
          have hd := HD3.out B164 B167 B172 q1 q2 q3
          clear q1 q2 q3 hB164 hB167 hB172
          cases B164
          · (show _ = _; kernel_rfl)
          cases B167
          · (show _ = _; kernel_rfl)
          cases B172
          · (show _ = _; kernel_rfl)
          · cases hd
        · obtain rfl : ed3 = 0 := HED3.out.1 rfl
          obtain ⟨rfl, hku, hkv⟩ := HHE.out rfl
          obtain rfl : B162 = true := Option.some.inj (hB162.out.symm.trans (by rfl))
          obtain rfl : B178 = false := Option.some.inj (hB178.out.symm.trans (by rfl))
          obtain rfl : B181 = true := Option.some.inj (hB181.out.symm.trans (by rfl))
          have q1 := Option.some.inj hB164.out
          have q2 := Option.some.inj hB167.out
          have q3 := Option.some.inj hB172.out
          have hd := HD3.out B164 B167 B172 q1 q2 q3
          clear q1 q2 q3 hB164 hB167 hB172
          obtain rfl : B185 = true := Option.some.inj (hB185.out.symm.trans (by simp [Pev.cmpI, hku]))
          obtain rfl : B190 = true := Option.some.inj (hB190.out.symm.trans (by simp [Pev.cmpI, hkv]))
          cases B164
          · cases hd
          cases B167
          · cases hd
          cases B172
          · cases hd
          · (show _ = _; kernel_rfl)
  case fin =>
    intro a' hN hdf h10
    go_wp2_with fail
    exact bodyPost_ret (v := .bool true) (by simp [results, Tryd.results4, go_sem, h10]) hdf ⟨rfl, HBf.out⟩
end Go.Proofs.YthknkdphofjmhaaDoor.CanonBack
