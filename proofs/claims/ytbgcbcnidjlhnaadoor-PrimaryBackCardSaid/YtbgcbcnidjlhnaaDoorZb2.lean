/- Texts of my own, laid together: PrimGr, PrimBg. -/
import Derived.Test.YtbgcbcnidjlhnaaDoorPrimR
import Derived.Test.YtbgcbcnidjlhnaaDoorZs6
import Derived.Test.YtbgcbcnidjlhnaaDoorZs16
import Derived.Test.YtbgcbcnidjlhnaaDoorZs17
import Derived.Test.YtbgcbcnidjlhnaaDoorGreat
/- The contract of the statements' Great (layer 6). -/
namespace Go.Proofs.YtbgcbcnidjlhnaaDoor.Prim
open Go.RowKit Wd Cb Eid

/-- Some truth comes. -/
def SomeB (w : World) (e : Ending) (w' : World) : Prop := ∃ b, e = .returned (.bool b) ∧ Below w.heap.size w w'
set_option maxRecDepth 100000 in
set_option maxHeartbeats 8000000 in
theorem great06_any (p : Prm) (w : World) : Calls Tryd.prog 43 #[p.val] w (SomeB w) := by
  have CG := Lib.hid (fun w' => great05_any p.id w')
  generalize decide (300 < wrap64 ((p.id.src.host.size : Int) + p.id.src.demux.size)) = gd at *
  obtain ⟨f, sm, ⟨di, dn, ds, dh, dd⟩, ⟨ri, rn, rs, rh, rd⟩, ⟨⟨ii, inn, iss, ih, idd⟩, t, q⟩, lf⟩ := p
  have HB0 := Lib.hid ((Below.refl w.heap.size w).alloc (Nat.le_refl _) (.cells #[.int .u64 f, .int .i64 sm, .bool di, .int .u64 dn, .int .u64 ds, .string dh, .string dd, .bool ri, .int .u64 rn, .int .u64 rs, .string rh, .string rd, .bool ii, .int .u64 inn, .int .u64 iss, .string ih, .string idd, .int .u64 t, .int .u64 q, .int .u64 lf] 90))
  have HK0 := Lib.hid (Blk.new w 90 #[.int .u64 f, .int .i64 sm, .bool di, .int .u64 dn, .int .u64 ds, .string dh, .string dd, .bool ri, .int .u64 rn, .int .u64 rs, .string rh, .string rd, .bool ii, .int .u64 inn, .int .u64 iss, .string ih, .string idd, .int .u64 t, .int .u64 q, .int .u64 lf])
  go_enter Tryd.func43, Tryd.ntmps43
  go_upto_region 1 with (fail)
  generalize w.alloc (.cells #[.int .u64 f, .int .i64 sm, .bool di, .int .u64 dn, .int .u64 ds, .string dh, .string dd, .bool ri, .int .u64 rn, .int .u64 rs, .string rh, .string rd, .bool ii, .int .u64 inn, .int .u64 iss, .string ih, .string idd, .int .u64 t, .int .u64 q, .int .u64 lf] 90) = w0 at *
  obtain ⟨c0, c1, c2, c3, c4, c5, c6, c7, c8, c9, c10, c11, c12, c13, c14, c15, c16, c17, c18, c19⟩ := cells20 HK0.out
  cases hd : decide (300 < wrap64 (wrap64 (wrap64 ((dh.size : Int) + (dd.size : Int)) + (rh.size : Int)) + (rd.size : Int)))
  · go_wp2_with fail
    refine (CG.out _).mono ?_
    rintro e w1 ⟨rfl, hb⟩
    have HB1 := Lib.hid (below_next HB0.out HB0.out.size hb)
    clear hb
    go_wp2_with fail
    go_ret
    exact ⟨_, rfl, HB1.out⟩
  · go_wp2_with fail
    go_ret
    exact ⟨_, rfl, HB0.out⟩
end Go.Proofs.YtbgcbcnidjlhnaaDoor.Prim
/- The statement PrimaryBack: the walk. -/
namespace Go.Proofs.YtbgcbcnidjlhnaaDoor.PrimaryBack
open Go.RowKit Wd Cb Eid EncB CbCopy CbList CbRight CbWrite CbLays CbSame Prim Great

theorem prI_ok {x : Itm} (hs : sane x) (hE : (enc x).length ≤ 900000000) : (prI x).ok := by
  unfold prI
  split
  · rename_i h
    have ho : openE x 2 = 0 := by
      unfold prE at h
      split at h
      · assumption
      · exact absurd h ‹_›
    have hle := openL_le x 2
    exact pguess_ok (openL x 2) (openL_sane hs 2) (by omega) (open_two ho)
  · exact zeroPrm_ok
theorem prI_right (x : Itm) : pright (prI x) = true := by
  by_cases h : prE x = 0
  · exact (pr_way h).1
  · unfold prI
    rw [if_neg h]
    exact p0_right

set_option maxRecDepth 100000 in
set_option maxHeartbeats 8000000 in
theorem walk_great (p : Prm) (hp : p.ok) (x : Itm) (xv : Value) (at_ : Int) (w : World) (hv : ItemV w 0 w.heap.size x xv) (hT : Tabs w) (hS : Sz w) (hgr : grt x 1 300 < 0) :
    Calls Tryd.prog 9 #[p.val, xv, .int .i64 at_] w fun e w' => e = .returned (.bool true) ∧ Below w.heap.size w w' := by
  obtain ⟨A1, c1, A2, c2, rfl, rk, rn_, -, -, -, -, hs1, hs2, hs3⟩ := hv.open_
  have HTW := Lib.hid (fun (W : World) (h : Below w.heap.size w W) => And.intro (hT.below h (Nat.le_refl _)) (hS.below h (Nat.le_refl _)))
  have CAl := Lib.hid (fun (W : World) (h : Below w.heap.size w W) => alive06_any W (HTW.out W h).1 (HTW.out W h).2)
  have HV := Lib.hid (fun (W : World) (h : Below w.heap.size w W) => (hv.below h).more (Nat.le_refl _) h.size)
  have CG6 := Lib.hid (fun W => great06_any p W)
  have CG3 := Lib.hid (fun (W : World) (h : Below w.heap.size w W) => great_rec (deep x) x _ 1 300 W (Nat.le_refl _) (HV.out W h) (by omega) (by omega) (by omega) (by omega))
  have HB0 := Lib.hid (((Below.refl w.heap.size w).alloc (Nat.le_refl _) (.cells p.cells 90)).alloc (by simp) (.cells #[.int .i64 x.kind, .int .u64 x.num, .slice A1 x.bs.length c1, .slice A2 x.sub.length c2] 30))
  have HP0 := Lib.hid ((Blk.new w 90 p.cells).alloc (.cells #[.int .i64 x.kind, .int .u64 x.num, .slice A1 x.bs.length c1, .slice A2 x.sub.length c2] 30))
  have HX0 := Lib.hid (blk_new1 w (.cells p.cells 90) 30 #[.int .i64 x.kind, .int .u64 x.num, .slice A1 x.bs.length c1, .slice A2 x.sub.length c2])
  have dg : decide (grt x 1 300 < 0) = true := decide_eq_true hgr
  clear hv hT hS hgr hp HV HTW rk rn_ hs1 hs2 hs3
  obtain ⟨f, sm, ⟨di, dn, ds, dh, dd⟩, ⟨ri, rn, rs, rh, rd⟩, ⟨⟨ii, inn, iss, ih, idd⟩, t, q⟩, lf⟩ := p
  generalize x.kind = xk at *
  generalize x.num = xn at *
  generalize x.bs.length = xb at *
  generalize x.sub.length = xs at *
  go_enter Tryd.func9, Tryd.ntmps9
  go_upto_region 1 with (fail)
  generalize (w.alloc (.cells #[.int .u64 f, .int .i64 sm, .bool di, .int .u64 dn, .int .u64 ds, .string dh, .string dd, .bool ri, .int .u64 rn, .int .u64 rs, .string rh, .string rd, .bool ii, .int .u64 inn, .int .u64 iss, .string ih, .string idd, .int .u64 t, .int .u64 q, .int .u64 lf] 90)).alloc (.cells #[.int .i64 xk, .int .u64 xn, .slice A1 xb c1, .slice A2 xs c2] 30) = w0 at *
  refine wp_region_lit ?_
  refine wpList_load_row rfl 90 (.tmp 3) rfl w.heap.size rfl 90 _ (0, 0) _ HP0.out Tryd.underlying90 rfl info20 ?_
  refine wpList_plain rfl fun K hK => ?_
  go_simp
  refine (CG6.out w0).mono ?_
  rintro e w1 ⟨b, rfl, hb1⟩
  refine hK _ _ ?_
  clear hK K
  have HB1 := Lib.hid (below_next HB0.out HB0.out.size hb1)
  have HP1 := Lib.hid (HP0.out.next hb1)
  have HX1 := Lib.hid (HX0.out.next hb1)
  clear hb1 CG6 HB0 HP0 HX0
  obtain ⟨⟨x0, x1, x2, x3⟩, -⟩ := cells_item HX1.out
  cases b
  · go_wp2_with fail
    refine (CG3.out w1 HB1.out).mono ?_
    rintro e w2 ⟨rfl, hb2⟩
    have HB2 := Lib.hid (below_next HB1.out HB1.out.size hb2)
    clear hb2 HP1 HX1 x0 x1 x2 x3
    go_wp2_with fail
    refine (CAl.out w2 HB2.out).mono ?_
    rintro e w3 ⟨rfl, hb⟩
    have HBz := Lib.hid (below_next HB2.out HB2.out.size hb)
    clear hb
    go_wp2_with fail
    go_ret
    exact ⟨rfl, HBz.out⟩
  · go_wp2_with fail
    refine (CAl.out w1 HB1.out).mono ?_
    rintro e w2 ⟨rfl, hb⟩
    have HBz := Lib.hid (below_next HB1.out HB1.out.size hb)
    clear hb
    go_wp2_with fail
    go_ret
    exact ⟨rfl, HBz.out⟩
end Go.Proofs.YtbgcbcnidjlhnaaDoor.PrimaryBack
