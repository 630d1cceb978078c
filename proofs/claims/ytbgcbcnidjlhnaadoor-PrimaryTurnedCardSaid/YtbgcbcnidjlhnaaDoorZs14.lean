/- Texts of my own, laid together: PrimWn, PrimWy. -/
import Derived.Test.YtbgcbcnidjlhnaaDoorPrimW
import Derived.Deep.RegionHeld3
import Derived.Deep.CutBlock
/- Write of what may not be. -/
namespace Go.Proofs.YtbgcbcnidjlhnaaDoor.Prim
open Go.RowKit Wd Cb Eid EncB CbCopy CbList CbRight CbWrite CbLays

set_option maxRecDepth 100000 in
set_option maxHeartbeats 8000000 in
theorem pwrite_no (p : Prm) (hp : p.ok) (w : World) (hr : pright p = false) : Calls Tryd.prog 44 #[p.val] w fun e w' => e = .returned (.tuple #[zeroV, .int .i64 3]) ∧ Below w.heap.size w w' := by
  have CR := Lib.hid (fun w' => pright_any p hp w')
  rw [hr] at CR
  clear hp hr
  obtain ⟨f, sm, ⟨di, dn, ds, dh, dd⟩, ⟨ri, rn, rs, rh, rd⟩, ⟨⟨ii, inn, iss, ih, idd⟩, t, q⟩, lf⟩ := p
  have HB0 := Lib.hid (((Below.refl w.heap.size w).alloc (Nat.le_refl _) (.cells #[.int .u64 f, .int .i64 sm, .bool di, .int .u64 dn, .int .u64 ds, .string dh, .string dd, .bool ri, .int .u64 rn, .int .u64 rs, .string rh, .string rd, .bool ii, .int .u64 inn, .int .u64 iss, .string ih, .string idd, .int .u64 t, .int .u64 q, .int .u64 lf] 90)).alloc (by simp) (.cells #[.int .i64 0, .int .u64 0, .slice none 0 0, .slice none 0 0] 30))
  have HK0 := Lib.hid ((Blk.new w 90 #[.int .u64 f, .int .i64 sm, .bool di, .int .u64 dn, .int .u64 ds, .string dh, .string dd, .bool ri, .int .u64 rn, .int .u64 rs, .string rh, .string rd, .bool ii, .int .u64 inn, .int .u64 iss, .string ih, .string idd, .int .u64 t, .int .u64 q, .int .u64 lf]).alloc (.cells #[.int .i64 0, .int .u64 0, .slice none 0 0, .slice none 0 0] 30))
  have HZ0 := Lib.hid (Blk.new (w.alloc (.cells #[.int .u64 f, .int .i64 sm, .bool di, .int .u64 dn, .int .u64 ds, .string dh, .string dd, .bool ri, .int .u64 rn, .int .u64 rs, .string rh, .string rd, .bool ii, .int .u64 inn, .int .u64 iss, .string ih, .string idd, .int .u64 t, .int .u64 q, .int .u64 lf] 90)) 30 #[.int .i64 0, .int .u64 0, .slice none 0 0, .slice none 0 0])
  rw [World.size_alloc] at HZ0
  go_enter Tryd.func44, Tryd.ntmps44
  go_upto_region 1 with (fail)
  generalize (w.alloc (.cells #[.int .u64 f, .int .i64 sm, .bool di, .int .u64 dn, .int .u64 ds, .string dh, .string dd, .bool ri, .int .u64 rn, .int .u64 rs, .string rh, .string rd, .bool ii, .int .u64 inn, .int .u64 iss, .string ih, .string idd, .int .u64 t, .int .u64 q, .int .u64 lf] 90)).alloc (.cells #[.int .i64 0, .int .u64 0, .slice none 0 0, .slice none 0 0] 30) = w0 at *
  refine wp_region_lit ?_
  refine wpList_load_row rfl 90 (.tmp 1) rfl w.heap.size rfl 90 _ (0, 0) _ HK0.out Tryd.underlying90 rfl info20 ?_
  go_wp2_with fail
  refine (CR.out _).mono ?_
  rintro e w1 ⟨rfl, hb1⟩
  have HB1 := Lib.hid (below_next HB0.out HB0.out.size hb1)
  obtain ⟨⟨z0, z1, z2, z3⟩, u0, u1, u2, u3⟩ := cells_item (HZ0.out.next hb1)
  clear hb1 HK0 HZ0 HB0
  go_wp2_with fail
  exact bodyPost_ret (v := .tuple #[zeroV, .int .i64 3]) (by simp [results, Tryd.results44, go_sem, z0, z1, z2, z3, u0, u1, u2, u3]) rfl ⟨rfl, below_set4 HB1.out (Nat.le_succ _) _ _ _ _⟩
end Go.Proofs.YtbgcbcnidjlhnaaDoor.Prim
/- Write of what may be. -/
namespace Go.Proofs.YtbgcbcnidjlhnaaDoor.Prim
open Go.RowKit Wd Cb Eid EncB CbCopy CbList CbRight CbWrite CbLays

set_option maxRecDepth 100000 in
set_option maxHeartbeats 8000000 in
theorem pwrite_yes (p : Prm) (hp : p.ok) (w : World) (hT : Tabs w) (hS : Sz w) (hr : pright p = true) : Calls Tryd.prog 44 #[p.val] w fun e w' => ∃ v, e = .returned (.tuple #[v, .int .i64 0]) ∧ Hid (Laid w w' (pw p) v) ∧ Below w.heap.size w w' := by
  obtain ⟨q1, q2, q3, q4, q5, q6⟩ := pright_all hr
  have hsm := pitems_small hr
  have hps := pseal hr
  have CR := Lib.hid (fun w' => pright_any p hp w')
  rw [hr] at CR
  have CD := Lib.hid (fun w' => write_any p.dest hp.d w')
  have CP := Lib.hid (fun w' => write_any p.report hp.r w')
  have CI := Lib.hid (fun w' => iwrite_any p.id hp.i w')
  rw [q3] at CD
  rw [q4] at CP
  rw [q5] at CI
  simp only [if_true] at CD CP CI
  have HTW := Lib.hid (fun (W : World) (h : Below w.heap.size w W) => And.intro (hT.below h (Nat.le_refl _)) (hS.below h (Nat.le_refl _)))
  have HPI := Lib.hid (show pitems p = [iN 7, iN p.flags, iN p.sum, itemOf p.dest, itemOf p.id.src, itemOf p.report, iL (iN p.id.time) (iN p.id.seq), iN p.life] from rfl)
  have HN := Lib.hid (And.intro (And.intro hp.f0 hp.f1) (And.intro hp.l0 hp.l1))
  have HSE := Lib.hid hps
  have HSM := Lib.hid hsm
  have HII := Lib.hid (show iitem p.id = iL (itemOf p.id.src) (iL (iN p.id.time) (iN p.id.seq)) from rfl)
  rw [HII.out] at CI
  clear hp hr hT hS hps hsm q1 q3 q4 q5 q6 HII
  generalize pitems p = PI at *
  generalize pw p = PW at *
  generalize itemOf p.dest = ID at *
  generalize itemOf p.report = IR at *
  generalize itemOf p.id.src = IS at *
  obtain ⟨f, sm, ⟨di, dn, ds, dh, dd⟩, ⟨ri, rn, rs, rh, rd⟩, ⟨⟨ii, inn, iss, ih, idd⟩, t, q⟩, lf⟩ := p
  simp only at q2 HPI HN CI
  obtain ⟨q20, q21⟩ := q2
  generalize iL (iN t) (iN q) = IT at *
  have HB0 := Lib.hid (((Below.refl w.heap.size w).alloc (Nat.le_refl _) (.cells #[.int .u64 f, .int .i64 sm, .bool di, .int .u64 dn, .int .u64 ds, .string dh, .string dd, .bool ri, .int .u64 rn, .int .u64 rs, .string rh, .string rd, .bool ii, .int .u64 inn, .int .u64 iss, .string ih, .string idd, .int .u64 t, .int .u64 q, .int .u64 lf] 90)).alloc (by simp) (.cells #[.int .i64 0, .int .u64 0, .slice none 0 0, .slice none 0 0] 30))
  have HK0 := Lib.hid ((Blk.new w 90 #[.int .u64 f, .int .i64 sm, .bool di, .int .u64 dn, .int .u64 ds, .string dh, .string dd, .bool ri, .int .u64 rn, .int .u64 rs, .string rh, .string rd, .bool ii, .int .u64 inn, .int .u64 iss, .string ih, .string idd, .int .u64 t, .int .u64 q, .int .u64 lf]).alloc (.cells #[.int .i64 0, .int .u64 0, .slice none 0 0, .slice none 0 0] 30))
  have HZ0 := Lib.hid (Blk.new (w.alloc (.cells #[.int .u64 f, .int .i64 sm, .bool di, .int .u64 dn, .int .u64 ds, .string dh, .string dd, .bool ri, .int .u64 rn, .int .u64 rs, .string rh, .string rd, .bool ii, .int .u64 inn, .int .u64 iss, .string ih, .string idd, .int .u64 t, .int .u64 q, .int .u64 lf] 90)) 30 #[.int .i64 0, .int .u64 0, .slice none 0 0, .slice none 0 0])
  rw [World.size_alloc] at HZ0
  go_enter Tryd.func44, Tryd.ntmps44
  go_upto_region 1 with (fail)
  generalize (w.alloc (.cells #[.int .u64 f, .int .i64 sm, .bool di, .int .u64 dn, .int .u64 ds, .string dh, .string dd, .bool ri, .int .u64 rn, .int .u64 rs, .string rh, .string rd, .bool ii, .int .u64 inn, .int .u64 iss, .string ih, .string idd, .int .u64 t, .int .u64 q, .int .u64 lf] 90)).alloc (.cells #[.int .i64 0, .int .u64 0, .slice none 0 0, .slice none 0 0] 30) = w0 at *
  refine wp_region_lit ?_
  refine wpList_load_row rfl 90 (.tmp 1) rfl w.heap.size rfl 90 _ (0, 0) _ HK0.out Tryd.underlying90 rfl info20 ?_
  go_wp2_with fail
  refine (CR.out _).mono ?_
  rintro e w1 ⟨rfl, hb1⟩
  have HB1 := Lib.hid (below_next HB0.out HB0.out.size hb1)
  have HK1 := Lib.hid (HK0.out.next hb1)
  have HZ1 := Lib.hid (HZ0.out.next hb1)
  clear hb1 HK0 HZ0 HB0 CR
  obtain ⟨c0, c1, c2, c3, c4, c5, c6, c7, c8, c9, c10, c11, c12, c13, c14, c15, c16, c17, c18, c19⟩ := cells20 HK1.out
  go_wp2_with fail
  refine (CI.out _).mono ?_
  rintro e w2 ⟨v2, rfl, HI2, hb2⟩
  obtain ⟨A0, d0, bb, oo, cc, A1, a1, b1, A2, a2, b2, A3, a3, b3, A4, a4, b4, rfl, hbb, hcc, hcm, e0, e4, HS2, HT2⟩ := two_parts HI2.out
  have HB2 := Lib.hid ((below_next HB1.out HB1.out.size hb2).alloc (Nat.le_trans HB1.out.size hb2.size) (.cells #[.int .i64 4, .int .u64 0, .slice A0 0 d0, .slice (some ⟨bb, oo, none⟩) 2 cc] 30))
  have HK2 := Lib.hid ((HK1.out.next hb2).alloc (.cells #[.int .i64 4, .int .u64 0, .slice A0 0 d0, .slice (some ⟨bb, oo, none⟩) 2 cc] 30))
  have HZ2 := Lib.hid ((HZ1.out.next hb2).alloc (.cells #[.int .i64 4, .int .u64 0, .slice A0 0 d0, .slice (some ⟨bb, oo, none⟩) 2 cc] 30))
  have HL2 := Lib.hid (Blk.new w2 30 #[.int .i64 4, .int .u64 0, .slice A0 0 d0, .slice (some ⟨bb, oo, none⟩) 2 cc])
  have hba : Below w2.heap.size w2 (w2.alloc (.cells #[.int .i64 4, .int .u64 0, .slice A0 0 d0, .slice (some ⟨bb, oo, none⟩) 2 cc] 30)) := (Below.refl _ _).alloc (Nat.le_refl _) _
  have HE2 := Lib.hid (fun (W : World) (h : Below (w2.alloc (.cells #[.int .i64 4, .int .u64 0, .slice A0 0 d0, .slice (some ⟨bb, oo, none⟩) 2 cc] 30)).heap.size (w2.alloc (.cells #[.int .i64 4, .int .u64 0, .slice A0 0 d0, .slice (some ⟨bb, oo, none⟩) 2 cc] 30)) W) =>
    have hh := below_next hba hba.size h
    And.intro (And.intro ((hh.cell (p := ⟨bb, oo, none⟩) hbb).trans e0.1) (And.intro ((hh.cell (p := ⟨bb, oo + 1, none⟩) hbb).trans e0.2.1) (And.intro ((hh.cell (p := ⟨bb, oo + 2, none⟩) hbb).trans e0.2.2.1) ((hh.cell (p := ⟨bb, oo + 3, none⟩) hbb).trans e0.2.2.2))))
      (And.intro ((hh.cell (p := ⟨bb, oo + 4, none⟩) hbb).trans e4.1) (And.intro ((hh.cell (p := ⟨bb, oo + 4 + 1, none⟩) hbb).trans e4.2.1) (And.intro ((hh.cell (p := ⟨bb, oo + 4 + 2, none⟩) hbb).trans e4.2.2.1) ((hh.cell (p := ⟨bb, oo + 4 + 3, none⟩) hbb).trans e4.2.2.2)))))
  have HS2' := Lib.hid (((HS2.below hba).more (Nat.le_refl _) hba.size))
  have HT2' := Lib.hid (((HT2.below hba).more (Nat.le_refl _) hba.size))
  have hzw2 : w.heap.size + 1 < w2.heap.size := Nat.lt_of_lt_of_le HZ1.out.lt hb2.size
  have hz2 : w2.heap.size < (w2.alloc (.cells #[.int .i64 4, .int .u64 0, .slice A0 0 d0, .slice (some ⟨bb, oo, none⟩) 2 cc] 30)).heap.size := by simp
  clear HI2 hb2 HK1 HZ1 HB1 e0 e4 HS2 HT2 hba CI c0 c1 c2 c3 c4 c5 c6 c7 c8 c9 c10 c11 c12 c13 c14 c15 c16 c17 c18 c19
  go_upto_region 4 with (fail)
  generalize w2.alloc (.cells #[.int .i64 4, .int .u64 0, .slice A0 0 d0, .slice (some ⟨bb, oo, none⟩) 2 cc] 30) = w3 at *
  obtain ⟨c0, c1, c2, c3, c4, c5, c6, c7, c8, c9, c10, c11, c12, c13, c14, c15, c16, c17, c18, c19⟩ := cells20 HK2.out
  go_wp2_with fail
  refine (CD.out _).mono ?_
  rintro e w4 ⟨v4, rfl, HI4, hb4⟩
  obtain ⟨k5, n5, A5, b5, d5, E5, f5, g5, rfl⟩ := v4_of HI4.out
  have hba : Below w3.heap.size w3 (w4.alloc (.cells #[.int .i64 k5, .int .u64 n5, .slice A5 b5 d5, .slice E5 f5 g5] 30)) := hb4.alloc hb4.size _
  have HB4 := Lib.hid (below_next HB2.out HB2.out.size hba)
  have HK4 := Lib.hid (HK2.out.next hba)
  have HZ4 := Lib.hid (HZ2.out.next hba)
  have HL4 := Lib.hid (HL2.out.next hba)
  have HE4 := Lib.hid (fun (W : World) (h : Below (w4.alloc (.cells #[.int .i64 k5, .int .u64 n5, .slice A5 b5 d5, .slice E5 f5 g5] 30)).heap.size (w4.alloc (.cells #[.int .i64 k5, .int .u64 n5, .slice A5 b5 d5, .slice E5 f5 g5] 30)) W) => HE2.out W (below_next hba hba.size h))
  have HS4 := Lib.hid ((HS2'.out.below hba).more (Nat.le_refl _) hba.size)
  have HT4 := Lib.hid ((HT2'.out.below hba).more (Nat.le_refl _) hba.size)
  have hz34 : w3.heap.size ≤ w4.heap.size := hb4.size
  have HD4 := Lib.hid (Blk.new w4 30 #[.int .i64 k5, .int .u64 n5, .slice A5 b5 d5, .slice E5 f5 g5])
  have HI4' := Lib.hid ((HI4.out.alloc (Nat.le_refl _) (.cells #[.int .i64 k5, .int .u64 n5, .slice A5 b5 d5, .slice E5 f5 g5] 30)).more (lo' := 0) (hi' := (w4.alloc (.cells #[.int .i64 k5, .int .u64 n5, .slice A5 b5 d5, .slice E5 f5 g5] 30)).heap.size) (Nat.le_refl _) (by simp))
  clear HI4 hb4 hba HK2 HZ2 HB2 HE2 HS2' HT2' CD HL2 c0 c1 c2 c3 c4 c5 c6 c7 c8 c9 c10 c11 c12 c13 c14 c15 c16 c17 c18 c19
  go_upto_region 5 with (fail)
  generalize w4.alloc (.cells #[.int .i64 k5, .int .u64 n5, .slice A5 b5 d5, .slice E5 f5 g5] 30) = w5 at *
  obtain ⟨c0, c1, c2, c3, c4, c5, c6, c7, c8, c9, c10, c11, c12, c13, c14, c15, c16, c17, c18, c19⟩ := cells20 HK4.out
  go_wp2_with fail
  refine (CP.out _).mono ?_
  rintro e w6 ⟨v6, rfl, HI6, hb6⟩
  obtain ⟨k7, n7, A7, b7, d7, E7, f7, g7, rfl⟩ := v4_of HI6.out
  have hba : Below w5.heap.size w5 (w6.alloc (.cells #[.int .i64 k7, .int .u64 n7, .slice A7 b7 d7, .slice E7 f7 g7] 30)) := hb6.alloc hb6.size _
  have HB6 := Lib.hid (below_next HB4.out HB4.out.size hba)
  have HK6 := Lib.hid (HK4.out.next hba)
  have HZ6 := Lib.hid (HZ4.out.next hba)
  have HL6 := Lib.hid (HL4.out.next hba)
  have HE6 := Lib.hid (fun (W : World) (h : Below (w6.alloc (.cells #[.int .i64 k7, .int .u64 n7, .slice A7 b7 d7, .slice E7 f7 g7] 30)).heap.size (w6.alloc (.cells #[.int .i64 k7, .int .u64 n7, .slice A7 b7 d7, .slice E7 f7 g7] 30)) W) => HE4.out W (below_next hba hba.size h))
  have HS6 := Lib.hid ((HS4.out.below hba).more (Nat.le_refl _) hba.size)
  have HT6 := Lib.hid ((HT4.out.below hba).more (Nat.le_refl _) hba.size)
  have HD6 := Lib.hid (HD4.out.next hba)
  have HDI6 := Lib.hid ((HI4'.out.below hba).more (Nat.le_refl _) hba.size)
  have hz56 : w5.heap.size ≤ w6.heap.size := hb6.size
  have hz45 : w4.heap.size < w5.heap.size := HD4.out.lt
  have HR6 := Lib.hid (Blk.new w6 30 #[.int .i64 k7, .int .u64 n7, .slice A7 b7 d7, .slice E7 f7 g7])
  have HRI6 := Lib.hid ((HI6.out.alloc (Nat.le_refl _) (.cells #[.int .i64 k7, .int .u64 n7, .slice A7 b7 d7, .slice E7 f7 g7] 30)).more (lo' := 0) (hi' := (w6.alloc (.cells #[.int .i64 k7, .int .u64 n7, .slice A7 b7 d7, .slice E7 f7 g7] 30)).heap.size) (Nat.le_refl _) (by simp))
  clear HI6 hb6 hba HK4 HZ4 HB4 HE4 HS4 HT4 HD4 HI4' HL4 CP c0 c1 c2 c3 c4 c5 c6 c7 c8 c9 c10 c11 c12 c13 c14 c15 c16 c17 c18 c19
  go_upto_region 6 with (fail)
  generalize w6.alloc (.cells #[.int .i64 k7, .int .u64 n7, .slice A7 b7 d7, .slice E7 f7 g7] 30) = W at *
  have hz6W : w6.heap.size < W.heap.size := HR6.out.lt
  go_cut [10, 11] from 34 (fun p10 p11 wx => ∃ m10 m11 : Nat, p10 = .pointer (some ⟨m10, 0, none⟩) ∧ p11 = .pointer (some ⟨m11, 0, none⟩) ∧ W.heap.size ≤ m10 ∧ W.heap.size ≤ m11 ∧ Hid (Blk wx m10 30 #[.int .i64 IS.kind, .int .u64 IS.num, .slice A1 a1 b1, .slice A2 a2 b2]) ∧ Hid (Blk wx m11 30 #[.int .i64 IT.kind, .int .u64 IT.num, .slice A3 a3 b3, .slice A4 a4 b4]) ∧ Hid (Below W.heap.size W wx))
  case first =>
    have KC := Lib.hid (fun (W' : World) (h : Below W.heap.size W W') => And.intro (cells4 (HL6.out.next h)).2.2.2 (HE6.out W' h))
    go_region_held3 (fun w' => w'.cell? ⟨w2.heap.size, 3, none⟩ = some (.slice (some ⟨bb, oo, none⟩) 2 cc) ∧ (w'.cell? ⟨bb, oo, none⟩ = some (.int .i64 IS.kind) ∧ w'.cell? ⟨bb, oo + 1, none⟩ = some (.int .u64 IS.num) ∧ w'.cell? ⟨bb, oo + 2, none⟩ = some (.slice A1 a1 b1) ∧ w'.cell? ⟨bb, oo + 3, none⟩ = some (.slice A2 a2 b2)) ∧ (w'.cell? ⟨bb, oo + 4, none⟩ = some (.int .i64 IT.kind) ∧ w'.cell? ⟨bb, oo + 4 + 1, none⟩ = some (.int .u64 IT.num) ∧ w'.cell? ⟨bb, oo + 4 + 2, none⟩ = some (.slice A3 a3 b3) ∧ w'.cell? ⟨bb, oo + 4 + 3, none⟩ = some (.slice A4 a4 b4)))
      (exact KC.out _ (by repeat' (first | with_reducible exact Below.refl _ _ | with_reducible refine bel_drew ?_ | with_reducible refine bel_alloc ?_ _ | (refine bel_set ?_ ?_ _ <;> first | (simp; done) | omega | skip))))
      (fail)
    all_goals
      go_wp2_with fail
      go_meet
      first
        | exact ⟨_, _, rfl, rfl, by omega, by omega, Lib.hid (two_first _ _ _ _), Lib.hid (two_second _ _ _ _), Lib.hid (bel_drew (bel_alloc (bel_alloc (Below.refl _ _) _) _))⟩
        | exact ⟨_, _, rfl, rfl, by omega, by omega, Lib.hid (two_second _ _ _ _), Lib.hid (two_first _ _ _ _), Lib.hid (bel_drew (bel_alloc (bel_alloc (Below.refl _ _) _) _))⟩
  case rest =>
    obtain ⟨m10, m11, rfl, rfl, hm10, hm11, HC10, HC11, HBc⟩ := hcut
    have HBw := Lib.hid (below_next HB6.out HB6.out.size HBc.out)
    have HKc := Lib.hid (HK6.out.next HBc.out)
    have HZc := Lib.hid (HZ6.out.next HBc.out)
    have HDc := Lib.hid (HD6.out.next HBc.out)
    have HRc := Lib.hid (HR6.out.next HBc.out)
    have HID := Lib.hid ((HDI6.out.below HBc.out).more (Nat.le_refl _) HBc.out.size)
    have HIR := Lib.hid ((HRI6.out.below HBc.out).more (Nat.le_refl _) HBc.out.size)
    have HIS := Lib.hid ((HS6.out.below HBc.out).more (Nat.le_refl _) HBc.out.size)
    have HIT := Lib.hid ((HT6.out.below HBc.out).more (Nat.le_refl _) HBc.out.size)
    have ne1 : w.heap.size ≠ w.heap.size + 1 := by omega
    have ne2 : w4.heap.size ≠ w.heap.size + 1 := by omega
    have ne3 : w6.heap.size ≠ w.heap.size + 1 := by omega
    have ne4 : m10 ≠ w.heap.size + 1 := by omega
    have ne5 : m11 ≠ w.heap.size + 1 := by omega
    have KC := Lib.hid (fun (W' : World) (h : Below wc.heap.size wc W') => show (W'.cell? ⟨w.heap.size, 0, none⟩ = some (.int .u64 f) ∧ W'.cell? ⟨w.heap.size, 1, none⟩ = some (.int .i64 sm) ∧ W'.cell? ⟨w.heap.size, 19, none⟩ = some (.int .u64 lf)) ∧ (W'.cell? ⟨w4.heap.size, 0, none⟩ = some (.int .i64 k5) ∧ W'.cell? ⟨w4.heap.size, 1, none⟩ = some (.int .u64 n5) ∧ W'.cell? ⟨w4.heap.size, 2, none⟩ = some (.slice A5 b5 d5) ∧ W'.cell? ⟨w4.heap.size, 3, none⟩ = some (.slice E5 f5 g5)) ∧ (W'.cell? ⟨m10, 0, none⟩ = some (.int .i64 IS.kind) ∧ W'.cell? ⟨m10, 1, none⟩ = some (.int .u64 IS.num) ∧ W'.cell? ⟨m10, 2, none⟩ = some (.slice A1 a1 b1) ∧ W'.cell? ⟨m10, 3, none⟩ = some (.slice A2 a2 b2)) ∧ (W'.cell? ⟨w6.heap.size, 0, none⟩ = some (.int .i64 k7) ∧ W'.cell? ⟨w6.heap.size, 1, none⟩ = some (.int .u64 n7) ∧ W'.cell? ⟨w6.heap.size, 2, none⟩ = some (.slice A7 b7 d7) ∧ W'.cell? ⟨w6.heap.size, 3, none⟩ = some (.slice E7 f7 g7)) ∧ (W'.cell? ⟨m11, 0, none⟩ = some (.int .i64 IT.kind) ∧ W'.cell? ⟨m11, 1, none⟩ = some (.int .u64 IT.num) ∧ W'.cell? ⟨m11, 2, none⟩ = some (.slice A3 a3 b3) ∧ W'.cell? ⟨m11, 3, none⟩ = some (.slice A4 a4 b4)) from And.intro (And.intro ((cells20 (HKc.out.next h))).1 (And.intro ((cells20 (HKc.out.next h))).2.1 ((cells20 (HKc.out.next h)).2.2.2.2.2.2.2.2.2.2.2.2.2.2.2.2.2.2.2))) (And.intro (cells4 (HDc.out.next h)) (And.intro (cells4 (HC10.out.next h)) (And.intro (cells4 (HRc.out.next h)) (cells4 (HC11.out.next h))))))
    have KF := Lib.hid (fun (W' : World) (h : Below wc.heap.size wc W') (y0 y1 y2 y3 : Value) => show ((set4 W' (w.heap.size + 1) y0 y1 y2 y3).cell? ⟨w.heap.size, 0, none⟩ = some (.int .u64 f) ∧ (set4 W' (w.heap.size + 1) y0 y1 y2 y3).cell? ⟨w.heap.size, 1, none⟩ = some (.int .i64 sm) ∧ (set4 W' (w.heap.size + 1) y0 y1 y2 y3).cell? ⟨w.heap.size, 19, none⟩ = some (.int .u64 lf)) ∧ ((set4 W' (w.heap.size + 1) y0 y1 y2 y3).cell? ⟨w4.heap.size, 0, none⟩ = some (.int .i64 k5) ∧ (set4 W' (w.heap.size + 1) y0 y1 y2 y3).cell? ⟨w4.heap.size, 1, none⟩ = some (.int .u64 n5) ∧ (set4 W' (w.heap.size + 1) y0 y1 y2 y3).cell? ⟨w4.heap.size, 2, none⟩ = some (.slice A5 b5 d5) ∧ (set4 W' (w.heap.size + 1) y0 y1 y2 y3).cell? ⟨w4.heap.size, 3, none⟩ = some (.slice E5 f5 g5)) ∧ ((set4 W' (w.heap.size + 1) y0 y1 y2 y3).cell? ⟨m10, 0, none⟩ = some (.int .i64 IS.kind) ∧ (set4 W' (w.heap.size + 1) y0 y1 y2 y3).cell? ⟨m10, 1, none⟩ = some (.int .u64 IS.num) ∧ (set4 W' (w.heap.size + 1) y0 y1 y2 y3).cell? ⟨m10, 2, none⟩ = some (.slice A1 a1 b1) ∧ (set4 W' (w.heap.size + 1) y0 y1 y2 y3).cell? ⟨m10, 3, none⟩ = some (.slice A2 a2 b2)) ∧ ((set4 W' (w.heap.size + 1) y0 y1 y2 y3).cell? ⟨w6.heap.size, 0, none⟩ = some (.int .i64 k7) ∧ (set4 W' (w.heap.size + 1) y0 y1 y2 y3).cell? ⟨w6.heap.size, 1, none⟩ = some (.int .u64 n7) ∧ (set4 W' (w.heap.size + 1) y0 y1 y2 y3).cell? ⟨w6.heap.size, 2, none⟩ = some (.slice A7 b7 d7) ∧ (set4 W' (w.heap.size + 1) y0 y1 y2 y3).cell? ⟨w6.heap.size, 3, none⟩ = some (.slice E7 f7 g7)) ∧ ((set4 W' (w.heap.size + 1) y0 y1 y2 y3).cell? ⟨m11, 0, none⟩ = some (.int .i64 IT.kind) ∧ (set4 W' (w.heap.size + 1) y0 y1 y2 y3).cell? ⟨m11, 1, none⟩ = some (.int .u64 IT.num) ∧ (set4 W' (w.heap.size + 1) y0 y1 y2 y3).cell? ⟨m11, 2, none⟩ = some (.slice A3 a3 b3) ∧ (set4 W' (w.heap.size + 1) y0 y1 y2 y3).cell? ⟨m11, 3, none⟩ = some (.slice A4 a4 b4)) from And.intro (And.intro ((cells20 (set4_far (HKc.out.next h) ne1 y0 y1 y2 y3))).1 (And.intro ((cells20 (set4_far (HKc.out.next h) ne1 y0 y1 y2 y3))).2.1 ((cells20 (set4_far (HKc.out.next h) ne1 y0 y1 y2 y3)).2.2.2.2.2.2.2.2.2.2.2.2.2.2.2.2.2.2.2))) (And.intro (cells4 (set4_far (HDc.out.next h) ne2 y0 y1 y2 y3)) (And.intro (cells4 (set4_far (HC10.out.next h) ne4 y0 y1 y2 y3)) (And.intro (cells4 (set4_far (HRc.out.next h) ne3 y0 y1 y2 y3)) (cells4 (set4_far (HC11.out.next h) ne5 y0 y1 y2 y3))))))
    have KZ := Lib.hid (fun (W' : World) (h : Below wc.heap.size wc W') => cells_item (HZc.out.next h))
    have CN7 := Lib.hid (fun W => num_any 7 W (by omega) (by omega))
    have CNf := Lib.hid (fun W => num_any f W HN.out.1.1 HN.out.1.2)
    have CNs := Lib.hid (fun W => num_any sm W (by omega) (by omega))
    have CNl := Lib.hid (fun W => num_any lf W HN.out.2.1 HN.out.2.2)
    have hws : IntKind.u64.wrap sm = sm := by rw [IntKind.wrap_u64]; omega
    have HZL : Hid (w.heap.size + 1 < wc.heap.size) := Lib.hid HZc.out.lt
    have CSl := Lib.hid (fun (WE : World) (h : Below wc.heap.size wc WE) => show Calls Tryd.prog 38 #[.slice (some ⟨WE.heap.size, 0, none⟩) 8 8, .int .i64 2] (WE.alloc (.cells #[.int .i64 0, .int .u64 7, .slice none 0 0, .slice none 0 0, .int .i64 0, .int .u64 f, .slice none 0 0, .slice none 0 0, .int .i64 0, .int .u64 sm, .slice none 0 0, .slice none 0 0, .int .i64 k5, .int .u64 n5, .slice A5 b5 d5, .slice E5 f5 g5, .int .i64 IS.kind, .int .u64 IS.num, .slice A1 a1 b1, .slice A2 a2 b2, .int .i64 k7, .int .u64 n7, .slice A7 b7 d7, .slice E7 f7 g7, .int .i64 IT.kind, .int .u64 IT.num, .slice A3 a3 b3, .slice A4 a4 b4, .int .i64 0, .int .u64 lf, .slice none 0 0, .slice none 0 0] 30)) (fun e w' => ∃ g, e = .returned (.tuple #[listV (some ⟨g, 0, none⟩) PW.sub.length PW.sub.length, .int .i64 0]) ∧ Hid (WE.heap.size < g ∧ Row w' g (g + 1) w'.heap.size PW.sub) ∧ Below WE.heap.size WE w') from by
      have hba : Below WE.heap.size WE (WE.alloc (.cells #[.int .i64 0, .int .u64 7, .slice none 0 0, .slice none 0 0, .int .i64 0, .int .u64 f, .slice none 0 0, .slice none 0 0, .int .i64 0, .int .u64 sm, .slice none 0 0, .slice none 0 0, .int .i64 k5, .int .u64 n5, .slice A5 b5 d5, .slice E5 f5 g5, .int .i64 IS.kind, .int .u64 IS.num, .slice A1 a1 b1, .slice A2 a2 b2, .int .i64 k7, .int .u64 n7, .slice A7 b7 d7, .slice E7 f7 g7, .int .i64 IT.kind, .int .u64 IT.num, .slice A3 a3 b3, .slice A4 a4 b4, .int .i64 0, .int .u64 lf, .slice none 0 0, .slice none 0 0] 30)) := (Below.refl _ _).alloc (Nat.le_refl _) _
      have hbw := below_next h h.size hba
      have hz : (WE.alloc (.cells #[.int .i64 0, .int .u64 7, .slice none 0 0, .slice none 0 0, .int .i64 0, .int .u64 f, .slice none 0 0, .slice none 0 0, .int .i64 0, .int .u64 sm, .slice none 0 0, .slice none 0 0, .int .i64 k5, .int .u64 n5, .slice A5 b5 d5, .slice E5 f5 g5, .int .i64 IS.kind, .int .u64 IS.num, .slice A1 a1 b1, .slice A2 a2 b2, .int .i64 k7, .int .u64 n7, .slice A7 b7 d7, .slice E7 f7 g7, .int .i64 IT.kind, .int .u64 IT.num, .slice A3 a3 b3, .slice A4 a4 b4, .int .i64 0, .int .u64 lf, .slice none 0 0, .slice none 0 0] 30)).heap.size = WE.heap.size + 1 := World.size_alloc _ _
      have up : ∀ {x v}, ItemV wc 0 wc.heap.size x v → ItemV (WE.alloc (.cells #[.int .i64 0, .int .u64 7, .slice none 0 0, .slice none 0 0, .int .i64 0, .int .u64 f, .slice none 0 0, .slice none 0 0, .int .i64 0, .int .u64 sm, .slice none 0 0, .slice none 0 0, .int .i64 k5, .int .u64 n5, .slice A5 b5 d5, .slice E5 f5 g5, .int .i64 IS.kind, .int .u64 IS.num, .slice A1 a1 b1, .slice A2 a2 b2, .int .i64 k7, .int .u64 n7, .slice A7 b7 d7, .slice E7 f7 g7, .int .i64 IT.kind, .int .u64 IT.num, .slice A3 a3 b3, .slice A4 a4 b4, .int .i64 0, .int .u64 lf, .slice none 0 0, .slice none 0 0] 30)) 0 (WE.heap.size + 1) x v := fun hx => (hx.below hbw).more (Nat.le_refl _) (by have := h.size; omega)
      have hi := items8 (W := WE.alloc (.cells #[.int .i64 0, .int .u64 7, .slice none 0 0, .slice none 0 0, .int .i64 0, .int .u64 f, .slice none 0 0, .slice none 0 0, .int .i64 0, .int .u64 sm, .slice none 0 0, .slice none 0 0, .int .i64 k5, .int .u64 n5, .slice A5 b5 d5, .slice E5 f5 g5, .int .i64 IS.kind, .int .u64 IS.num, .slice A1 a1 b1, .slice A2 a2 b2, .int .i64 k7, .int .u64 n7, .slice A7 b7 d7, .slice E7 f7 g7, .int .i64 IT.kind, .int .u64 IT.num, .slice A3 a3 b3, .slice A4 a4 b4, .int .i64 0, .int .u64 lf, .slice none 0 0, .slice none 0 0] 30)) (hi := WE.heap.size + 1) (item_num _ _ _ 7 ⟨by omega, by omega⟩) (item_num _ _ _ f HN.out.1) (item_num _ _ _ sm ⟨by omega, by omega⟩) (up HID.out) (up HIS.out) (up HIR.out) (up HIT.out) (item_num _ _ _ lf HN.out.2) (Blk.new WE 30 #[.int .i64 0, .int .u64 7, .slice none 0 0, .slice none 0 0, .int .i64 0, .int .u64 f, .slice none 0 0, .slice none 0 0, .int .i64 0, .int .u64 sm, .slice none 0 0, .slice none 0 0, .int .i64 k5, .int .u64 n5, .slice A5 b5 d5, .slice E5 f5 g5, .int .i64 IS.kind, .int .u64 IS.num, .slice A1 a1 b1, .slice A2 a2 b2, .int .i64 k7, .int .u64 n7, .slice A7 b7 d7, .slice E7 f7 g7, .int .i64 IT.kind, .int .u64 IT.num, .slice A3 a3 b3, .slice A4 a4 b4, .int .i64 0, .int .u64 lf, .slice none 0 0, .slice none 0 0]) (Nat.lt_succ_self _)
      rw [← HPI.out] at hi
      have hl : PI.length = 8 := by rw [HPI.out]; rfl
      have hsm := HSM.out
      have hbx := below_next HBw.out HBw.out.size hbw
      have hs := seal_any PI (some ⟨WE.heap.size, 0, none⟩) (WE.heap.size + 1) 8 2 _ hi (by omega) (by omega) (by unfold maxLen; omega) (by omega) (by omega) (HTW.out _ hbx).1 (HTW.out _ hbx).2
      rw [hl, HSE.out.1] at hs
      refine hs.mono ?_
      rintro e w' ⟨v, rfl, HO, hb⟩
      obtain ⟨g, rfl, h1, h2⟩ := HO.out.1 HSE.out.1
      rw [HSE.out.2] at h2 ⊢
      exact ⟨g, rfl, Lib.hid ⟨by omega, h2⟩, below_next hba hba.size hb⟩)
    clear HK6 HZ6 HD6 HR6 HDI6 HRI6 HS6 HT6 HE6 HL6 HB6 HBc HN HPI HSE HSM HTW HID HIR HIS HIT HKc HDc HRc HC10 HC11
    have HBd := Lib.hid ((Below.refl wc.heap.size wc).drew)
    go_wp2_with fail
    go_region_held3 (fun w' => (w'.cell? ⟨w.heap.size, 0, none⟩ = some (.int .u64 f) ∧ w'.cell? ⟨w.heap.size, 1, none⟩ = some (.int .i64 sm) ∧ w'.cell? ⟨w.heap.size, 19, none⟩ = some (.int .u64 lf)) ∧ (w'.cell? ⟨w4.heap.size, 0, none⟩ = some (.int .i64 k5) ∧ w'.cell? ⟨w4.heap.size, 1, none⟩ = some (.int .u64 n5) ∧ w'.cell? ⟨w4.heap.size, 2, none⟩ = some (.slice A5 b5 d5) ∧ w'.cell? ⟨w4.heap.size, 3, none⟩ = some (.slice E5 f5 g5)) ∧ (w'.cell? ⟨m10, 0, none⟩ = some (.int .i64 IS.kind) ∧ w'.cell? ⟨m10, 1, none⟩ = some (.int .u64 IS.num) ∧ w'.cell? ⟨m10, 2, none⟩ = some (.slice A1 a1 b1) ∧ w'.cell? ⟨m10, 3, none⟩ = some (.slice A2 a2 b2)) ∧ (w'.cell? ⟨w6.heap.size, 0, none⟩ = some (.int .i64 k7) ∧ w'.cell? ⟨w6.heap.size, 1, none⟩ = some (.int .u64 n7) ∧ w'.cell? ⟨w6.heap.size, 2, none⟩ = some (.slice A7 b7 d7) ∧ w'.cell? ⟨w6.heap.size, 3, none⟩ = some (.slice E7 f7 g7)) ∧ (w'.cell? ⟨m11, 0, none⟩ = some (.int .i64 IT.kind) ∧ w'.cell? ⟨m11, 1, none⟩ = some (.int .u64 IT.num) ∧ w'.cell? ⟨m11, 2, none⟩ = some (.slice A3 a3 b3) ∧ w'.cell? ⟨m11, 3, none⟩ = some (.slice A4 a4 b4)))
      (first | with_reducible exact KC.out _ HBd.out | with_reducible exact KC.out _ HBA.out | with_reducible exact KC.out _ HBB.out | with_reducible exact KC.out _ HBC.out | with_reducible exact KC.out _ HBD.out | with_reducible exact KC.out _ (HBD.out.alloc HBD.out.size _) | with_reducible exact KC.out _ HBE.out | with_reducible exact KF.out _ HBE.out _ _ _ _ | fail)
      (first | (go_at_call 38; (with_reducible refine (CSl.out _ HBD.out).mono ?_); rintro e wE ⟨g, rfl, HG, hbE⟩; have HBE := Lib.hid (below_next HBD.out HBD.out.size hbE); obtain ⟨⟨z0, z1, z2, z3⟩, u0, u1, u2, u3⟩ := KZ.out _ HBE.out; clear hbE) | (go_at_call 48; (with_reducible refine (CN7.out _).mono ?_); rintro e wA ⟨rfl, hbA⟩; have HBA := Lib.hid (below_next HBd.out HBd.out.size hbA); clear hbA) | (go_at_call 48; (with_reducible refine (CNf.out _).mono ?_); rintro e wB ⟨rfl, hbB⟩; have HBB := Lib.hid (below_next HBA.out HBA.out.size hbB); clear hbB) | (go_at_call 48; (with_reducible refine (CNs.out _).mono ?_); rintro e wC ⟨rfl, hbC⟩; have HBC := Lib.hid (below_next HBB.out HBB.out.size hbC); clear hbC) | (go_at_call 48; (with_reducible refine (CNl.out _).mono ?_); rintro e wD ⟨rfl, hbD⟩; have HBD := Lib.hid (below_next HBC.out HBC.out.size hbD); clear hbD) | fail)
    have hlg := HG.out.1
    have hzD := HBD.out.size
    have hzL := HZL.out
    have HBF := Lib.hid (below_next HBw.out HBw.out.size HBE.out)
    have HKE := Lib.hid (HZc.out.next HBE.out)
    clear HBd HBA HBB HBC HBD HBE KC KF CN7 CNf CNs CNl CSl
    generalize hW9 : set4 wE (w.heap.size + 1) (.int .i64 4) (.int .u64 0) (.slice none 0 0) (.slice (some ⟨g, 0, none⟩) PW.sub.length PW.sub.length) = W9
    unfold set4 at hW9
    have HB9 : Hid (Below w.heap.size w W9) := Lib.hid (by rw [← hW9]; exact below_set4 HBF.out (Nat.le_succ _) _ _ _ _)
    have HR9 : Hid (Row W9 g (g + 1) W9.heap.size PW.sub) := Lib.hid (by
      rw [← hW9]
      exact (HG.out.2.keep (set4_heap _ _ _ _ _ _ (by omega)) (fun i h _ => set4_heap _ _ _ _ _ _ (by omega))).hi_eq (by simp [World.setCell]))
    have HK9 : Hid (Blk W9 (w.heap.size + 1) 30 #[.int .i64 4, .int .u64 0, .slice none 0 0, .slice (some ⟨g, 0, none⟩) PW.sub.length PW.sub.length]) := Lib.hid (by
      rw [← hW9]
      exact set4_blk HKE.out _ _ _ _)
    rw [hW9]
    clear hW9 HG HKE HBF z0 z1 z2 z3 u0 u1 u2 u3
    obtain ⟨⟨z0, z1, z2, z3⟩, u0, u1, u2, u3⟩ := cells_item HK9.out
    go_wp2_with fail
    have hz46 : w.heap.size ≤ wc.heap.size := by omega
    exact bodyPost_ret (v := .tuple #[listV (some ⟨g, 0, none⟩) PW.sub.length PW.sub.length, .int .i64 0]) (by simp [results, Tryd.results44, go_sem, z0, z1, z2, z3]) rfl
      ⟨_, rfl, Lib.hid ⟨g, rfl, by omega, HR9.out⟩, HB9.out⟩
end Go.Proofs.YtbgcbcnidjlhnaaDoor.Prim
