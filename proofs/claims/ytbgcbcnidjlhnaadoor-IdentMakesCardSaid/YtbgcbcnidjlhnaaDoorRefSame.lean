/- The contract of ref03's Same. -/
import Derived.Test.YtbgcbcnidjlhnaaDoorCbSame
import Derived.Deep.RegionHeld3
namespace Go.Proofs.YtbgcbcnidjlhnaaDoor.RefSame
open Go.RowKit Wd Cb CbCopy CbRight CbSame

theorem str_eq (x y : List Int) (hx : St.bts x) (hy : St.bts y) : ((strOfNums x).toList == (strOfNums y).toList) = (x == y) := by
  rw [ByteArray.toList_eq, ByteArray.toList_eq, strOfNums_data, strOfNums_data, Bool.eq_iff_iff, beq_iff_eq, beq_iff_eq]
  exact ⟨St.map_inj x y hx hy, fun h => by rw [h]⟩

set_option maxRecDepth 100000 in
set_option maxHeartbeats 4000000 in
theorem refSame_any (N : Nat) : ∀ (x y : Itm) (v u : Value) (w : World), deep x ≤ N → ItemV w 0 w.heap.size x v → ItemV w 0 w.heap.size y u → size x ≤ 100000 → size y ≤ 100000 →
    Calls Tryd.prog 26 #[v, u] w fun e w' => e = .returned (.bool (same x y)) ∧ Below w.heap.size w w' := by
  induction N with
  | zero => intro x y v u w hN; have := deep_pos x; omega
  | succ N ih =>
    intro x y v u w hN hv hu hxs hys
    obtain ⟨A, c, A', c', rfl, hk, hn, hb, h1, h2, h3, h4, h5, h6⟩ := hv.open_
    obtain ⟨D, d, D', d', rfl, gk, gn, gb, g1, g2, g3, g4, g5, g6⟩ := hu.open_
    have hds := Nat.le_of_eq (deep_sub x)
    have hds' := Nat.le_of_eq (deep_sub x).symm
    have hss := Nat.le_of_eq (size_sub x).symm
    have hss' := Nat.le_of_eq (size_sub y).symm
    have hpa := same_parts x y
    have HPA := Lib.hid hpa
    have hb0 := ((Below.refl w.heap.size w).alloc (Nat.le_refl _) (.cells #[.int .i64 x.kind, .int .u64 x.num, .slice A x.bs.length c, .slice A' x.sub.length c'] 49)).alloc (by simp) (.cells #[.int .i64 y.kind, .int .u64 y.num, .slice D y.bs.length d, .slice D' y.sub.length d'] 49)
    have HK0 := Lib.hid ((Blk.new w 49 #[.int .i64 x.kind, .int .u64 x.num, .slice A x.bs.length c, .slice A' x.sub.length c']).alloc (.cells #[.int .i64 y.kind, .int .u64 y.num, .slice D y.bs.length d, .slice D' y.sub.length d'] 49))
    have HK1 := Lib.hid (Blk.new (w.alloc (.cells #[.int .i64 x.kind, .int .u64 x.num, .slice A x.bs.length c, .slice A' x.sub.length c'] 49)) 49 #[.int .i64 y.kind, .int .u64 y.num, .slice D y.bs.length d, .slice D' y.sub.length d'])
    simp only [World.size_alloc] at HK1
    have hz0 : ((w.alloc (.cells #[.int .i64 x.kind, .int .u64 x.num, .slice A x.bs.length c, .slice A' x.sub.length c'] 49)).alloc (.cells #[.int .i64 y.kind, .int .u64 y.num, .slice D y.bs.length d, .slice D' y.sub.length d'] 49)).heap.size = w.heap.size + 1 + 1 := by simp
    have hcx := run_string (P := Tryd.prog) (h3.below hb0).lst 27 5 9 Tryd.underlying27 Tryd.underlying5 Tryd.underlying9 c
    have hcy := run_string (P := Tryd.prog) (g3.below hb0).lst 27 5 9 Tryd.underlying27 Tryd.underlying5 Tryd.underlying9 d
    have HI1 := Lib.hid (h6.below hb0)
    have HI2 := Lib.hid (g6.below hb0)
    have HB0 := Lib.hid hb0
    have HXB := Lib.hid hb
    have HYB := Lib.hid gb
    have hlx := length_le_sizes x.sub
    have hly := length_le_sizes y.sub
    unfold maxLen at h5 g5
    clear hv hu h3 h6 g3 g6 hb0 hpa h1 h2 g1 g2 hb gb
    go_enter Tryd.func26, Tryd.ntmps26
    by_cases c0 : x.kind = y.kind
    · have c0a : (x.kind != y.kind) = false := by simpa using c0
      have C0 := Lib.hid c0
      clear c0
      by_cases c1 : x.num = y.num
      · have c1a : (x.num != y.num) = false := by simpa using c1
        have C1 := Lib.hid c1
        clear c1
        have hse := str_eq x.bs y.bs HXB.out HYB.out
        by_cases c2 : x.bs = y.bs
        · have c2a : ((strOfNums x.bs).toList == (strOfNums y.bs).toList) = true := by rw [hse]; simpa using c2
          have C2 := Lib.hid c2
          clear c2 hse
          by_cases c3 : x.sub.length = y.sub.length
          · have c3a : ((x.sub.length : Int) != (y.sub.length : Int)) = false := by rw [c3]; simp
            have C3 := Lib.hid c3
            clear c3
            go_wp2_with fail
            generalize (w.alloc (.cells #[.int .i64 x.kind, .int .u64 x.num, .slice A x.bs.length c, .slice A' x.sub.length c'] 49)).alloc (.cells #[.int .i64 y.kind, .int .u64 y.num, .slice D y.bs.length d, .slice D' y.sub.length d'] 49) = W0 at *
            have hzl : W0.heap.size ≤ w.heap.size + 1 + 1 := Nat.le_of_eq hz0
            have hzg : w.heap.size + 1 + 1 ≤ W0.heap.size := Nat.le_of_eq hz0.symm
            clear hz0 hcx hcy c0a c1a c2a c3a
            go_loopw [5] (fun i wr => ∃ (j : Nat), j ≤ x.sub.length ∧ i = .int .i64 j ∧ Hid (sames (x.sub.take j) (y.sub.take j) = true) ∧ Hid (Below W0.heap.size W0 wr)) (fun i _ => x.sub.length - (intOf i).toNat)
            case atStart => exact ⟨0, by omega, rfl, Lib.hid (by simp [sames]), Lib.hid (Below.refl _ _)⟩
            case round =>
              obtain ⟨j, hj, rfl, HSj, HWj⟩ := hrel
              have hsr := HWj.out.size
              by_cases hlt : j < x.sub.length
              · have hlt2 : j < y.sub.length := by have := C3.out; omega
                have HJ1 := Lib.hid ((HI1.out.below (HWj.out.mono (by omega))).more (Nat.le_refl _) (show w.heap.size ≤ wr.heap.size by omega))
                have HJ2 := Lib.hid ((HI2.out.below (HWj.out.mono (by omega))).more (Nat.le_refl _) (show w.heap.size ≤ wr.heap.size by omega))
                obtain ⟨b1, o1, A1, n1, A1', n1', ea, _, hb1, e0, e1, e2, e3, q1, q2, q3, q4, q5, q6, q7, q8, q9⟩ := HJ1.out.at_ hlt
                obtain ⟨b2, o2, A2, n2, A2', n2', eb, _, hb2, f0, f1, f2, f3, p1, p2, p3, p4, p5, p6, p7, p8, p9⟩ := HJ2.out.at_ hlt2
                have g0 : wr.cell? ⟨w.heap.size, 3, none⟩ = some (.slice (some ⟨b1, o1, none⟩) x.sub.length c') := by rw [← ea]; exact (HWj.out.cell (p := ⟨w.heap.size, 3, none⟩) (by show w.heap.size < _; omega)).trans (by simpa using HK0.out.cell 3)
                have g1 : wr.cell? ⟨w.heap.size + 1, 3, none⟩ = some (.slice (some ⟨b2, o2, none⟩) y.sub.length d') := by rw [← eb]; exact (HWj.out.cell (p := ⟨w.heap.size + 1, 3, none⟩) (by show w.heap.size + 1 < _; omega)).trans (by simpa using HK1.out.cell 3)
                have hv1 := ItemV.of q1 q2 q3 q4 q5 q6 q7 q8 q9
                have hv2 := ItemV.of p1 p2 p3 p4 p5 p6 p7 p8 p9
                have CI := Lib.hid (fun (W : World) (hW : Below wr.heap.size wr W) => ih x.sub[j] y.sub[j] _ _ W (by have := deep_at x.sub j hlt; omega) ((hv1.below hW).more (Nat.le_refl _) hW.size) ((hv2.below hW).more (Nat.le_refl _) hW.size) (by have := size_at x.sub j hlt; omega) (by have := size_at y.sub j hlt2; omega))
                have KC := Lib.hid (fun (W : World) (hW : Below wr.heap.size wr W) => show W.cell? ⟨w.heap.size, 3, none⟩ = some (.slice (some ⟨b1, o1, none⟩) x.sub.length c') ∧ W.cell? ⟨w.heap.size + 1, 3, none⟩ = some (.slice (some ⟨b2, o2, none⟩) y.sub.length d') ∧
                    W.cell? ⟨b1, o1 + j * 4, none⟩ = some (.int .i64 x.sub[j].kind) ∧ W.cell? ⟨b1, o1 + j * 4 + 1, none⟩ = some (.int .u64 x.sub[j].num) ∧ W.cell? ⟨b1, o1 + j * 4 + 2, none⟩ = some (.slice A1 x.sub[j].bs.length n1) ∧ W.cell? ⟨b1, o1 + j * 4 + 3, none⟩ = some (.slice A1' x.sub[j].sub.length n1') ∧
                    W.cell? ⟨b2, o2 + j * 4, none⟩ = some (.int .i64 y.sub[j].kind) ∧ W.cell? ⟨b2, o2 + j * 4 + 1, none⟩ = some (.int .u64 y.sub[j].num) ∧ W.cell? ⟨b2, o2 + j * 4 + 2, none⟩ = some (.slice A2 y.sub[j].bs.length n2) ∧ W.cell? ⟨b2, o2 + j * 4 + 3, none⟩ = some (.slice A2' y.sub[j].sub.length n2') from
                  ⟨(hW.cell (by show w.heap.size < _; omega)).trans g0, (hW.cell (by show w.heap.size + 1 < _; omega)).trans g1, (hW.cell hb1).trans e0, (hW.cell hb1).trans e1, (hW.cell hb1).trans e2, (hW.cell hb1).trans e3, (hW.cell hb2).trans f0, (hW.cell hb2).trans f1, (hW.cell hb2).trans f2, (hW.cell hb2).trans f3⟩)
                have HNO := Lib.hid (sames_no x.sub y.sub j hlt hlt2)
                have HSN := Lib.hid (sames_snoc x.sub y.sub j hlt hlt2)
                have j0 : (0 : Int) ≤ (j : Int) := by omega
                have j1 : (j : Int) < (x.sub.length : Int) := by omega
                have j2 : (j : Int) < (y.sub.length : Int) := by omega
                have HBd := Lib.hid ((Below.refl wr.heap.size wr).drew)
                clear ea eb e0 e1 e2 e3 f0 f1 f2 f3 hv1 hv2 q3 q6 q9 p3 p6 p9
                go_wp2_with fail
                clear g0 g1
                go_region_held3 (fun W => W.cell? ⟨w.heap.size, 3, none⟩ = some (.slice (some ⟨b1, o1, none⟩) x.sub.length c') ∧ W.cell? ⟨w.heap.size + 1, 3, none⟩ = some (.slice (some ⟨b2, o2, none⟩) y.sub.length d') ∧ W.cell? ⟨b1, o1 + j * 4, none⟩ = some (.int .i64 x.sub[j].kind) ∧ W.cell? ⟨b1, o1 + j * 4 + 1, none⟩ = some (.int .u64 x.sub[j].num) ∧ W.cell? ⟨b1, o1 + j * 4 + 2, none⟩ = some (.slice A1 x.sub[j].bs.length n1) ∧ W.cell? ⟨b1, o1 + j * 4 + 3, none⟩ = some (.slice A1' x.sub[j].sub.length n1') ∧ W.cell? ⟨b2, o2 + j * 4, none⟩ = some (.int .i64 y.sub[j].kind) ∧ W.cell? ⟨b2, o2 + j * 4 + 1, none⟩ = some (.int .u64 y.sub[j].num) ∧ W.cell? ⟨b2, o2 + j * 4 + 2, none⟩ = some (.slice A2 y.sub[j].bs.length n2) ∧ W.cell? ⟨b2, o2 + j * 4 + 3, none⟩ = some (.slice A2' y.sub[j].sub.length n2'))
                  (first | exact KC.out _ HBd.out | exact KC.out _ HB3.out | fail)
                  (first | (go_at_call 26; refine (CI.out _ HBd.out).mono ?_; rintro e w3 ⟨rfl, hb3⟩; have HB3 := Lib.hid (HBd.out.trans hb3); clear hb3) | fail)
                have HWn := Lib.hid (below_next HWj.out hsr HB3.out)
                clear HB3 HWj CI KC
                cases hsm : same x.sub[j] y.sub[j]
                · have HE := Lib.hid (HNO.out hsm)
                  clear hsm
                  go_wp2_with fail
                  go_ret
                  exact ⟨ret_bool (by rw [HPA.out, HE.out]; simp), below_next HB0.out (by omega) HWn.out⟩
                · have HE : Hid (sames (x.sub.take (j + 1)) (y.sub.take (j + 1)) = true) := Lib.hid (by rw [HSN.out, HSj.out, hsm]; rfl)
                  clear hsm
                  go_wp2_with fail
                  go_roundw
                  case rel => exact ⟨j + 1, by omega, by go_num, HE, HWn⟩
                  case measure => simp [intOf]; omega
              · obtain rfl : j = x.sub.length := by omega
                have g0 : wr.cell? ⟨w.heap.size, 3, none⟩ = some (.slice A' x.sub.length c') := (HWj.out.cell (p := ⟨w.heap.size, 3, none⟩) (by show w.heap.size < _; omega)).trans (by simpa using HK0.out.cell 3)
                have hsj := HSj.out
                rw [take_all, C3.out, take_all] at hsj
                have HE := Lib.hid hsj
                clear hsj
                go_wp2_with fail
                go_ret
                exact ⟨ret_bool (by rw [HPA.out, HE.out, C0.out, C1.out, C2.out]; simp), below_next HB0.out (by omega) HWj.out⟩
          · have c3a : ((x.sub.length : Int) != (y.sub.length : Int)) = true := by simp only [bne_iff_ne, ne_eq]; omega
            have HNO := Lib.hid (sames_len _ _ c3)
            clear c3
            go_wp2_with fail
            go_ret
            exact ⟨ret_bool (by rw [HPA.out, HNO.out]; simp), HB0.out⟩
        · have c2a : ((strOfNums x.bs).toList == (strOfNums y.bs).toList) = false := by rw [hse]; simpa using c2
          have c2b : (x.bs == y.bs) = false := by simpa using c2
          have C2 := Lib.hid c2b
          clear c2 c2b hse
          go_wp2_with fail
          go_ret
          exact ⟨ret_bool (by rw [HPA.out, C2.out]; simp), HB0.out⟩
      · have c1a : (x.num != y.num) = true := by simpa using c1
        have c1b : (x.num == y.num) = false := by simpa using c1
        have C1 := Lib.hid c1b
        clear c1 c1b
        go_wp2_with fail
        go_ret
        exact ⟨ret_bool (by rw [HPA.out, C1.out]; simp), HB0.out⟩
    · have c0a : (x.kind != y.kind) = true := by simpa using c0
      have c0b : (x.kind == y.kind) = false := by simpa using c0
      have C0 := Lib.hid c0b
      clear c0 c0b
      go_wp2_with fail
      go_ret
      exact ⟨ret_bool (by rw [HPA.out, C0.out]; simp), HB0.out⟩
end Go.Proofs.YtbgcbcnidjlhnaaDoor.RefSame
