/- Texts of my own, laid together: PrimA0, PrimAl. -/
import Derived.Test.YtbgcbcnidjlhnaaDoorZs17
import Derived.Deep.RegionHeld3
/- The fixed calls of layer 6's statements: what they are, plain. -/
namespace Go.Proofs.YtbgcbcnidjlhnaaDoor.Prim
open Go.RowKit Wd Cb Eid EncB CbCopy CbList CbRight CbWrite CbLays CbSame

abbrev p1 : Prm := ⟨131072, 1, zeroNm, zeroNm, zeroId, 9⟩
abbrev p2 : Prm := ⟨1, 0, zeroNm, zeroNm, zeroId, 0⟩
theorem p1_ok : p1.ok := ⟨by decide, by decide, by decide, by decide, zero_ok, zero_ok, zeroId_ok, by decide, by decide⟩
theorem p2_ok : p2.ok := ⟨by decide, by decide, by decide, by decide, zero_ok, zero_ok, zeroId_ok, by decide, by decide⟩
theorem p0_right : pright zeroPrm = true := by kernel_rfl
theorem p1_right : pright p1 = true := by kernel_rfl
theorem p2_right : pright p2 = false := by kernel_rfl
/-- The sealed block's items. -/
def yl : List Itm := (pw p1).sub
theorem yl_eq : pw p1 = lst yl := (pw_list p1_right).1
theorem yl_len : yl.length = 9 := by kernel_rfl
theorem xl_len : (pw zeroPrm).sub.length = 8 := by kernel_rfl
theorem y8 : ∃ b, yl = pitems p1 ++ [.mk 2 0 b []] ∧ b = sumB 1 (enc (blank (pitems p1) 1)) := ⟨_, rfl, rfl⟩
theorem y8_len : (yl[8]'(by rw [yl_len]; decide)).bs.length = 2 := by kernel_rfl
/-- With another Life. -/
def zl : List Itm := yl.set 7 (iN 8)
theorem zl_len : zl.length = 9 := by kernel_rfl
theorem zl_open : openE (lst zl) 2 = 10 := by kernel_rfl
theorem zl_pr : prE (lst zl) = 10 ∧ prI (lst zl) = zeroPrm := by
  have e : prE (lst zl) = 10 := by
    unfold prE
    rw [zl_open, if_neg (by decide)]
  refine ⟨e, ?_⟩
  unfold prI
  rw [e, if_neg (by decide)]
theorem zl_small : (enc (lst zl)).length ≤ 900000000 ∧ deep (lst zl) ≤ 50000 := by
  have h1 : Nat.ble (enc (lst zl)).length 900000000 = true := by kernel_rfl
  have h2 : Nat.ble (deep (lst zl)) 50000 = true := by kernel_rfl
  exact ⟨Nat.le_of_ble_eq_true h1, Nat.le_of_ble_eq_true h2⟩
end Go.Proofs.YtbgcbcnidjlhnaaDoor.Prim
/- The fixed calls of layer 6's statements. -/
namespace Go.Proofs.YtbgcbcnidjlhnaaDoor.Prim
open Go.RowKit Wd Cb Eid EncB CbCopy CbList CbRight CbWrite CbLays CbSame
attribute [local go_sem ↓ high] run_prm

theorem wpList_runG {P : Program} {ops : Array Oper} {rest : List Oper} {o : Oper} {a : Act} {w w' : World} {Q : Exit → Act → World → Prop} {v : Value} (hw : Region.wanted o (yielded ops a.tmps) = true) (hrun : (execOp a.eval o).run P w = .ok (.value v) w') (h : wpList P ops Q rest (a.put o.dst v) w') : wpList P ops Q (o :: rest) a w :=
  wpList_step fun K hK => by
    rw [if_pos hw]
    unfold Oper.wp
    rw [hrun, Oper.upon_value]
    exact hK _ _ h
theorem lst_items {w : World} {g hi : Nat} {l : List Itm} {n : Nat} (h : Row w g (g + 1) hi l) (hh : hi = w.heap.size) (hn : l.length = n) (hm : n ≤ maxLen) : ItemV w 0 w.heap.size (lst l) (listV (some ⟨g, 0, none⟩) n n) := by
  subst hh
  exact item_list (h.items (Nat.zero_le _) h.lt (Nat.zero_le _) (Nat.le_refl _)) hn (Nat.le_refl _) hm
theorem lays_up {w : World} : ∀ {l : List Itm} {lo hi hi' : Nat} {vs : List Value}, Lays w lo hi l vs → hi ≤ hi' → Lays w lo hi' l vs
  | [], lo, hi, hi', vs, h, h2 => by
    unfold Lays at h ⊢
    exact ⟨h.1, by omega⟩
  | x :: l, lo, hi, hi', vs, h, h2 => by
    unfold Lays at h ⊢
    obtain ⟨mid, c, r, h0, h1, h3, h4⟩ := h
    exact ⟨mid, c, r, h0, h1, h3, lays_up h4 h2⟩
/-- A row behind what leaves it alone. -/
theorem row_next {w w' : World} {g : Nat} {l : List Itm} (h : Row w g (g + 1) w.heap.size l) (hb : Below w.heap.size w w') : Row w' g (g + 1) w'.heap.size l := by
  obtain ⟨vs, sp, h1, h2⟩ := h.below hb h.lt (Nat.le_refl _)
  exact ⟨vs, sp, h1, lays_up h2 hb.size⟩

set_option maxRecDepth 100000 in
set_option maxHeartbeats 8000000 in
theorem alive06_any (w : World) (hT : Tabs w) (hS : Sz w) : Calls Tryd.prog 37 #[] w fun e w' => e = .returned (.bool true) ∧ Below w.heap.size w w' := by
  have HTW := Lib.hid (fun (W : World) (h : Below w.heap.size w W) => And.intro (hT.below h (Nat.le_refl _)) (hS.below h (Nat.le_refl _)))
  have CX := Lib.hid (fun (W : World) (h : Below w.heap.size w W) => show Calls Tryd.prog 44 #[.agg #[.int .u64 0, .int .i64 0, .bool false, .int .u64 0, .int .u64 0, .string ⟨#[]⟩, .string ⟨#[]⟩, .bool false, .int .u64 0, .int .u64 0, .string ⟨#[]⟩, .string ⟨#[]⟩, .bool false, .int .u64 0, .int .u64 0, .string ⟨#[]⟩, .string ⟨#[]⟩, .int .u64 0, .int .u64 0, .int .u64 0]] W (fun e w' => ∃ g, e = .returned (.tuple #[listV (some ⟨g, 0, none⟩) 8 8, .int .i64 0]) ∧ Hid (Row w' g (g + 1) w'.heap.size (pw zeroPrm).sub) ∧ W.heap.size ≤ g ∧ Below W.heap.size W w') from by
    refine (pwrite_yes zeroPrm zeroPrm_ok W (HTW.out W h).1 (HTW.out W h).2 p0_right).mono ?_
    rintro e w' ⟨v, rfl, HL, hb⟩
    obtain ⟨g, rfl, h1, h2⟩ := HL.out
    exact ⟨g, by rw [xl_len], Lib.hid h2, h1, hb⟩)
  have CY := Lib.hid (fun (W : World) (h : Below w.heap.size w W) => show Calls Tryd.prog 44 #[.agg #[.int .u64 131072, .int .i64 1, .bool false, .int .u64 0, .int .u64 0, .string ⟨#[]⟩, .string ⟨#[]⟩, .bool false, .int .u64 0, .int .u64 0, .string ⟨#[]⟩, .string ⟨#[]⟩, .bool false, .int .u64 0, .int .u64 0, .string ⟨#[]⟩, .string ⟨#[]⟩, .int .u64 0, .int .u64 0, .int .u64 9]] W (fun e w' => ∃ g, e = .returned (.tuple #[listV (some ⟨g, 0, none⟩) 9 9, .int .i64 0]) ∧ Hid (Row w' g (g + 1) w'.heap.size yl) ∧ W.heap.size ≤ g ∧ Below W.heap.size W w') from by
    refine (pwrite_yes p1 p1_ok W (HTW.out W h).1 (HTW.out W h).2 p1_right).mono ?_
    rintro e w' ⟨v, rfl, HL, hb⟩
    obtain ⟨g, rfl, h1, h2⟩ := HL.out
    exact ⟨g, by rw [show (pw p1).sub = yl from rfl, yl_len], Lib.hid h2, h1, hb⟩)
  have CW2 := Lib.hid (fun (W : World) => show Calls Tryd.prog 44 #[.agg #[.int .u64 1, .int .i64 0, .bool false, .int .u64 0, .int .u64 0, .string ⟨#[]⟩, .string ⟨#[]⟩, .bool false, .int .u64 0, .int .u64 0, .string ⟨#[]⟩, .string ⟨#[]⟩, .bool false, .int .u64 0, .int .u64 0, .string ⟨#[]⟩, .string ⟨#[]⟩, .int .u64 0, .int .u64 0, .int .u64 0]] W (fun e w' => e = .returned (.tuple #[zeroV, .int .i64 3]) ∧ Below W.heap.size W w') from pwrite_no p2 p2_ok W p2_right)
  have CRx := Lib.hid (fun (W : World) (g : Nat) (h : Below w.heap.size w W) (hr : Row W g (g + 1) W.heap.size (pw zeroPrm).sub) => show Calls Tryd.prog 45 #[listV (some ⟨g, 0, none⟩) 8 8] W (fun e w' => e = .returned (.tuple #[.agg #[.int .u64 0, .int .i64 0, .bool false, .int .u64 0, .int .u64 0, .string ⟨#[]⟩, .string ⟨#[]⟩, .bool false, .int .u64 0, .int .u64 0, .string ⟨#[]⟩, .string ⟨#[]⟩, .bool false, .int .u64 0, .int .u64 0, .string ⟨#[]⟩, .string ⟨#[]⟩, .int .u64 0, .int .u64 0, .int .u64 0], .int .i64 0]) ∧ Below W.heap.size W w') from by
    have hb := pr_back p0_right
    have hl := pw_list p0_right
    have h1 := lst_items hr rfl xl_len (by decide)
    rw [← hl.1] at h1
    have := pread_any _ _ W h1 (by have := hl.2.2.1; omega) (by have := hl.2.2.2; omega) (HTW.out W h).1 (HTW.out W h).2
    rw [hb.1, hb.2] at this
    exact this)
  have CRy := Lib.hid (fun (W : World) (g : Nat) (h : Below w.heap.size w W) (hr : Row W g (g + 1) W.heap.size yl) => show Calls Tryd.prog 45 #[listV (some ⟨g, 0, none⟩) 9 9] W (fun e w' => e = .returned (.tuple #[.agg #[.int .u64 131072, .int .i64 1, .bool false, .int .u64 0, .int .u64 0, .string ⟨#[]⟩, .string ⟨#[]⟩, .bool false, .int .u64 0, .int .u64 0, .string ⟨#[]⟩, .string ⟨#[]⟩, .bool false, .int .u64 0, .int .u64 0, .string ⟨#[]⟩, .string ⟨#[]⟩, .int .u64 0, .int .u64 0, .int .u64 9], .int .i64 0]) ∧ Below W.heap.size W w') from by
    have hb := pr_back p1_right
    have hl := pw_list p1_right
    have h1 := lst_items hr rfl yl_len (by decide)
    rw [← yl_eq] at h1
    have := pread_any _ _ W h1 (by have := hl.2.2.1; omega) (by have := hl.2.2.2; omega) (HTW.out W h).1 (HTW.out W h).2
    rw [hb.1, hb.2] at this
    exact this)
  have CRz := Lib.hid (fun (W : World) (g : Nat) (h : Below w.heap.size w W) (hr : Row W g (g + 1) W.heap.size zl) => show Calls Tryd.prog 45 #[listV (some ⟨g, 0, none⟩) 9 9] W (fun e w' => e = .returned (.tuple #[.agg #[.int .u64 0, .int .i64 0, .bool false, .int .u64 0, .int .u64 0, .string ⟨#[]⟩, .string ⟨#[]⟩, .bool false, .int .u64 0, .int .u64 0, .string ⟨#[]⟩, .string ⟨#[]⟩, .bool false, .int .u64 0, .int .u64 0, .string ⟨#[]⟩, .string ⟨#[]⟩, .int .u64 0, .int .u64 0, .int .u64 0], .int .i64 10]) ∧ Below W.heap.size W w') from by
    have h1 := lst_items hr rfl zl_len (by decide)
    have := pread_any _ _ W h1 zl_small.1 zl_small.2 (HTW.out W h).1 (HTW.out W h).2
    rw [zl_pr.1, zl_pr.2] at this
    exact this)
  clear hT hS HTW
  go_enter Tryd.func37, Tryd.ntmps37
  go_upto_region 1 with (fail)
  refine wp_region_lit ?_
  refine wpList_run (w' := w) (v := .agg #[.int .u64 0, .int .i64 0, .bool false, .int .u64 0, .int .u64 0, .string ⟨#[]⟩, .string ⟨#[]⟩, .bool false, .int .u64 0, .int .u64 0, .string ⟨#[]⟩, .string ⟨#[]⟩, .bool false, .int .u64 0, .int .u64 0, .string ⟨#[]⟩, .string ⟨#[]⟩, .int .u64 0, .int .u64 0, .int .u64 0]) rfl (by kernel_rfl) ?_
  refine wpList_plain rfl fun K hK => ?_
  go_simp
  refine (CX.out w (Below.refl _ _)).mono ?_
  rintro e w1 ⟨gx, rfl, HX1, hgx, hb1⟩
  refine hK _ _ ?_
  clear hK K
  have hba : Below w1.heap.size w1 (w1.alloc (.cells #[.int .i64 4, .int .u64 0, .slice none 0 0, .slice (some ⟨gx, 0, none⟩) 8 8] 30)) := (Below.refl _ _).alloc (Nat.le_refl _) _
  have HB2 := Lib.hid (below_next hb1 hb1.size hba)
  have HX2 := Lib.hid (row_next HX1.out hba)
  have HK2 := Lib.hid (Blk.new w1 30 #[.int .i64 4, .int .u64 0, .slice none 0 0, .slice (some ⟨gx, 0, none⟩) 8 8])
  clear hb1 HX1 CX hba
  go_upto_region 2 with (fail)
  generalize w1.alloc (.cells #[.int .i64 4, .int .u64 0, .slice none 0 0, .slice (some ⟨gx, 0, none⟩) 8 8] 30) = w2 at *
  refine wp_region_lit ?_
  refine wpList_load_row rfl 30 (.tmp 1) rfl w1.heap.size rfl 30 _ (0, 0) _ HK2.out Tryd.underlying30 rfl (by kernel_rfl) ?_
  refine wpList_plain rfl fun K hK => ?_
  go_simp
  refine (CRx.out w2 gx HB2.out HX2.out).mono ?_
  rintro e w3 ⟨rfl, hbw3⟩
  refine hK _ _ ?_
  clear hK K
  refine wpList_run (w' := w3) (v := .tuple #[.agg #[.int .u64 0, .int .i64 0, .bool false, .int .u64 0, .int .u64 0, .string ⟨#[]⟩, .string ⟨#[]⟩, .bool false, .int .u64 0, .int .u64 0, .string ⟨#[]⟩, .string ⟨#[]⟩, .bool false, .int .u64 0, .int .u64 0, .string ⟨#[]⟩, .string ⟨#[]⟩, .int .u64 0, .int .u64 0, .int .u64 0], .int .i64 0]) rfl (by rfl) ?_
  refine wpList_run (w' := w3) (v := .agg #[.int .u64 0, .int .i64 0, .bool false, .int .u64 0, .int .u64 0, .string ⟨#[]⟩, .string ⟨#[]⟩, .bool false, .int .u64 0, .int .u64 0, .string ⟨#[]⟩, .string ⟨#[]⟩, .bool false, .int .u64 0, .int .u64 0, .string ⟨#[]⟩, .string ⟨#[]⟩, .int .u64 0, .int .u64 0, .int .u64 0]) rfl (by rfl) ?_
  refine wpList_run (w' := w3) (v := .int .i64 0) rfl (by rfl) ?_
  refine wpList_run (w' := w3.alloc (.cells zero20 90)) (v := .pointer (some ⟨w3.heap.size, 0, none⟩)) rfl (by kernel_rfl) ?_
  refine wpList_store_row rfl 90 (.tmp 3) (.tmp 21) rfl w3.heap.size #[.int .u64 0, .int .i64 0, .bool false, .int .u64 0, .int .u64 0, .string ⟨#[]⟩, .string ⟨#[]⟩, .bool false, .int .u64 0, .int .u64 0, .string ⟨#[]⟩, .string ⟨#[]⟩, .bool false, .int .u64 0, .int .u64 0, .string ⟨#[]⟩, .string ⟨#[]⟩, .int .u64 0, .int .u64 0, .int .u64 0] (by rfl) (by rfl) 90 _ (Blk.new w3 _ _) info20 rfl (by first | rfl | simp [Value.oneCell']) ?_
  rw [World.setRow_alloc_new]
  have hba : Below w2.heap.size w2 (w3.alloc (.cells #[.int .u64 0, .int .i64 0, .bool false, .int .u64 0, .int .u64 0, .string ⟨#[]⟩, .string ⟨#[]⟩, .bool false, .int .u64 0, .int .u64 0, .string ⟨#[]⟩, .string ⟨#[]⟩, .bool false, .int .u64 0, .int .u64 0, .string ⟨#[]⟩, .string ⟨#[]⟩, .int .u64 0, .int .u64 0, .int .u64 0] 90)) := hbw3.alloc hbw3.size _
  have HB4 := Lib.hid (below_next HB2.out HB2.out.size hba)
  have HK4 := Lib.hid (HK2.out.next hba)
  have HR4 := Lib.hid (Blk.new w3 90 #[.int .u64 0, .int .i64 0, .bool false, .int .u64 0, .int .u64 0, .string ⟨#[]⟩, .string ⟨#[]⟩, .bool false, .int .u64 0, .int .u64 0, .string ⟨#[]⟩, .string ⟨#[]⟩, .bool false, .int .u64 0, .int .u64 0, .string ⟨#[]⟩, .string ⟨#[]⟩, .int .u64 0, .int .u64 0, .int .u64 0])
  have hw23 : w2.heap.size ≤ w3.heap.size := hbw3.size
  clear hbw3 hba HB2 CRx HK2 HX2
  go_upto_region 3 with (fail)
  generalize w3.alloc (.cells #[.int .u64 0, .int .i64 0, .bool false, .int .u64 0, .int .u64 0, .string ⟨#[]⟩, .string ⟨#[]⟩, .bool false, .int .u64 0, .int .u64 0, .string ⟨#[]⟩, .string ⟨#[]⟩, .bool false, .int .u64 0, .int .u64 0, .string ⟨#[]⟩, .string ⟨#[]⟩, .int .u64 0, .int .u64 0, .int .u64 0] 90) = w4 at *
  refine wp_region_lit ?_
  refine wpList_run (w' := w4) (v := .agg #[.int .u64 131072, .int .i64 1, .bool false, .int .u64 0, .int .u64 0, .string ⟨#[]⟩, .string ⟨#[]⟩, .bool false, .int .u64 0, .int .u64 0, .string ⟨#[]⟩, .string ⟨#[]⟩, .bool false, .int .u64 0, .int .u64 0, .string ⟨#[]⟩, .string ⟨#[]⟩, .int .u64 0, .int .u64 0, .int .u64 9]) rfl (by kernel_rfl) ?_
  refine wpList_plain rfl fun K hK => ?_
  go_simp
  refine (CY.out w4 HB4.out).mono ?_
  rintro e w5 ⟨gy, rfl, HY5, hgy, hb5⟩
  refine hK _ _ ?_
  clear hK K
  have hba : Below w4.heap.size w4 (w5.alloc (.cells #[.int .i64 4, .int .u64 0, .slice none 0 0, .slice (some ⟨gy, 0, none⟩) 9 9] 30)) := hb5.alloc hb5.size _
  have hbx : Below w5.heap.size w5 (w5.alloc (.cells #[.int .i64 4, .int .u64 0, .slice none 0 0, .slice (some ⟨gy, 0, none⟩) 9 9] 30)) := (Below.refl _ _).alloc (Nat.le_refl _) _
  have HB6 := Lib.hid (below_next HB4.out HB4.out.size hba)
  have HK6 := Lib.hid (HK4.out.next hba)
  have HR6 := Lib.hid (HR4.out.next hba)
  have HY6 := Lib.hid (row_next HY5.out hbx)
  have HL6 := Lib.hid (Blk.new w5 30 #[.int .i64 4, .int .u64 0, .slice none 0 0, .slice (some ⟨gy, 0, none⟩) 9 9])
  have hgy5 := HY5.out.lt
  have hw34 : w3.heap.size < w4.heap.size := HR4.out.lt
  have HB4' := Lib.hid HB4.out.size
  have hw56 : w5.heap.size < (w5.alloc (.cells #[.int .i64 4, .int .u64 0, .slice none 0 0, .slice (some ⟨gy, 0, none⟩) 9 9] 30)).heap.size := by simp
  clear hb5 hba hbx HB4 HK4 HR4 HY5 CY
  go_upto_region 4 with (fail)
  generalize w5.alloc (.cells #[.int .i64 4, .int .u64 0, .slice none 0 0, .slice (some ⟨gy, 0, none⟩) 9 9] 30) = w6 at *
  refine wp_region_lit ?_
  refine wpList_load_row rfl 30 (.tmp 5) rfl w5.heap.size rfl 30 _ (0, 0) _ HL6.out Tryd.underlying30 rfl (by kernel_rfl) ?_
  refine wpList_plain rfl fun K hK => ?_
  go_simp
  refine (CRy.out w6 gy HB6.out HY6.out).mono ?_
  rintro e w7 ⟨rfl, hbw7⟩
  refine hK _ _ ?_
  clear hK K
  refine wpList_run (w' := w7) (v := .tuple #[.agg #[.int .u64 131072, .int .i64 1, .bool false, .int .u64 0, .int .u64 0, .string ⟨#[]⟩, .string ⟨#[]⟩, .bool false, .int .u64 0, .int .u64 0, .string ⟨#[]⟩, .string ⟨#[]⟩, .bool false, .int .u64 0, .int .u64 0, .string ⟨#[]⟩, .string ⟨#[]⟩, .int .u64 0, .int .u64 0, .int .u64 9], .int .i64 0]) rfl (by rfl) ?_
  refine wpList_run (w' := w7) (v := .agg #[.int .u64 131072, .int .i64 1, .bool false, .int .u64 0, .int .u64 0, .string ⟨#[]⟩, .string ⟨#[]⟩, .bool false, .int .u64 0, .int .u64 0, .string ⟨#[]⟩, .string ⟨#[]⟩, .bool false, .int .u64 0, .int .u64 0, .string ⟨#[]⟩, .string ⟨#[]⟩, .int .u64 0, .int .u64 0, .int .u64 9]) rfl (by rfl) ?_
  refine wpList_run (w' := w7) (v := .int .i64 0) rfl (by rfl) ?_
  refine wpList_run (w' := w7.alloc (.cells zero20 90)) (v := .pointer (some ⟨w7.heap.size, 0, none⟩)) rfl (by kernel_rfl) ?_
  refine wpList_store_row rfl 90 (.tmp 7) (.tmp 31) rfl w7.heap.size #[.int .u64 131072, .int .i64 1, .bool false, .int .u64 0, .int .u64 0, .string ⟨#[]⟩, .string ⟨#[]⟩, .bool false, .int .u64 0, .int .u64 0, .string ⟨#[]⟩, .string ⟨#[]⟩, .bool false, .int .u64 0, .int .u64 0, .string ⟨#[]⟩, .string ⟨#[]⟩, .int .u64 0, .int .u64 0, .int .u64 9] (by rfl) (by rfl) 90 _ (Blk.new w7 _ _) info20 rfl (by first | rfl | simp [Value.oneCell']) ?_
  rw [World.setRow_alloc_new]
  have hba : Below w6.heap.size w6 (w7.alloc (.cells #[.int .u64 131072, .int .i64 1, .bool false, .int .u64 0, .int .u64 0, .string ⟨#[]⟩, .string ⟨#[]⟩, .bool false, .int .u64 0, .int .u64 0, .string ⟨#[]⟩, .string ⟨#[]⟩, .bool false, .int .u64 0, .int .u64 0, .string ⟨#[]⟩, .string ⟨#[]⟩, .int .u64 0, .int .u64 0, .int .u64 9] 90)) := hbw7.alloc hbw7.size _
  have HB8 := Lib.hid (below_next HB6.out HB6.out.size hba)
  have HK8 := Lib.hid (HK6.out.next hba)
  have HR8a := Lib.hid (HR6.out.next hba)
  have HL8 := Lib.hid (HL6.out.next hba)
  have HY8 := Lib.hid (row_next HY6.out hba)
  have HR8 := Lib.hid (Blk.new w7 90 #[.int .u64 131072, .int .i64 1, .bool false, .int .u64 0, .int .u64 0, .string ⟨#[]⟩, .string ⟨#[]⟩, .bool false, .int .u64 0, .int .u64 0, .string ⟨#[]⟩, .string ⟨#[]⟩, .bool false, .int .u64 0, .int .u64 0, .string ⟨#[]⟩, .string ⟨#[]⟩, .int .u64 0, .int .u64 0, .int .u64 9])
  have hw67 : w6.heap.size ≤ w7.heap.size := hbw7.size
  clear hbw7 hba HB6 CRy HK6 HR6 HL6 HY6
  go_upto_region 5 with (fail)
  generalize w7.alloc (.cells #[.int .u64 131072, .int .i64 1, .bool false, .int .u64 0, .int .u64 0, .string ⟨#[]⟩, .string ⟨#[]⟩, .bool false, .int .u64 0, .int .u64 0, .string ⟨#[]⟩, .string ⟨#[]⟩, .bool false, .int .u64 0, .int .u64 0, .string ⟨#[]⟩, .string ⟨#[]⟩, .int .u64 0, .int .u64 0, .int .u64 9] 90) = w8 at *
  obtain ⟨Ay, Ay', ⟨a0, a1, a2, a3⟩, -⟩ := row_at HY8.out 8 (by rw [yl_len]; decide)
  rw [y8_len] at a2
  obtain ⟨⟨x0, x1, x2, x3⟩, -⟩ := cells_item HK8.out
  obtain ⟨⟨y0, y1, y2, y3⟩, -⟩ := cells_item HL8.out
  have b2 : w8.cell? ⟨gy, 34, none⟩ = some (.slice Ay 2 2) := a2
  clear a0 a1 a2 a3
  go_upto_region 7 with (fail)
  have KL := Lib.hid (fun (W : World) (h : Below w8.heap.size w8 W) => (cells4 (HL8.out.next h)).2.2.2)
  have KLf := Lib.hid (fun (W : World) (h : Below w8.heap.size w8 W) (a b c d : Value) => show (((((W.setCell ⟨gy, 28, none⟩ a).setCell ⟨gy, 29, none⟩ b).setCell ⟨gy, 30, none⟩ c).setCell ⟨gy, 31, none⟩ d)).cell? ⟨w5.heap.size, 3, none⟩ = some (.slice (some ⟨gy, 0, none⟩) 9 9) from (cells4 (((((HL8.out.next h).far (p := ⟨gy, 28, none⟩) (by show w5.heap.size ≠ gy; omega) a).far (p := ⟨gy, 29, none⟩) (by show w5.heap.size ≠ gy; omega) b).far (p := ⟨gy, 30, none⟩) (by show w5.heap.size ≠ gy; omega) c).far (p := ⟨gy, 31, none⟩) (by show w5.heap.size ≠ gy; omega) d)).2.2.2)
  have KY := Lib.hid (fun (W : World) (h : Below w8.heap.size w8 W) => show ∃ v0 v1 v2 v3, (W.cell? ⟨gy, 28, none⟩ = some v0 ∧ W.cell? ⟨gy, 29, none⟩ = some v1 ∧ W.cell? ⟨gy, 30, none⟩ = some v2 ∧ W.cell? ⟨gy, 31, none⟩ = some v3) ∧ (W.frozen? ⟨gy, 28, none⟩ = false ∧ W.frozen? ⟨gy, 29, none⟩ = false ∧ W.frozen? ⟨gy, 30, none⟩ = false ∧ W.frozen? ⟨gy, 31, none⟩ = false) from by
    obtain ⟨A, A', h1, h2⟩ := row_at (row_next HY8.out h) 7 (by rw [yl_len]; decide)
    exact ⟨_, _, _, _, h1, h2⟩)
  have CN8 := Lib.hid (fun W => num_any 8 W (by omega) (by omega))
  have HBd := Lib.hid ((Below.refl w8.heap.size w8).drew)
  clear b2 x0 x1 x2 x3 y0 y1 y2
  go_region_held3 (fun w' => w'.cell? ⟨w5.heap.size, 3, none⟩ = some (.slice (some ⟨gy, 0, none⟩) 9 9))
    (first | with_reducible exact KL.out _ HBd.out | with_reducible exact KL.out _ HBN.out | with_reducible exact KLf.out _ HBN.out _ _ _ _ | fail)
    (first | (go_at_call 48; (with_reducible refine (CN8.out _).mono ?_); rintro e wN ⟨rfl, hbN⟩; have HBN := Lib.hid (below_next HBd.out HBd.out.size hbN); have hq := KY.out _ HBN.out; obtain ⟨v0, v1, v2, v3, ⟨c0, c1, c2, c3⟩, f0, f1, f2, f3⟩ := hq; clear hbN) | fail)
  have HY9 : Hid (Row ((((wN.setCell ⟨gy, 28, none⟩ (.int .i64 0)).setCell ⟨gy, 29, none⟩ (.int .u64 8)).setCell ⟨gy, 30, none⟩ (.slice none 0 0)).setCell ⟨gy, 31, none⟩ (.slice none 0 0)) gy (gy + 1) wN.heap.size zl) := Lib.hid (row_put (row_next HY8.out HBN.out) (Nat.lt_succ_self _) 8 ⟨by omega, by omega⟩ 7 (by rw [yl_len]; decide))
  have FAR := Lib.hid (fun (t : TypeId) (b : Nat) (cs : Array Value) (h : Blk w8 b t cs) (hb : b ≠ gy) => show Blk ((((wN.setCell ⟨gy, 28, none⟩ (.int .i64 0)).setCell ⟨gy, 29, none⟩ (.int .u64 8)).setCell ⟨gy, 30, none⟩ (.slice none 0 0)).setCell ⟨gy, 31, none⟩ (.slice none 0 0)) b t cs from ((((h.next HBN.out).far (p := ⟨gy, 28, none⟩) hb _).far (p := ⟨gy, 29, none⟩) hb _).far (p := ⟨gy, 30, none⟩) hb _).far (p := ⟨gy, 31, none⟩) hb _)
  have hwg : w.heap.size ≤ gy := Nat.le_trans HB4'.out hgy
  have HB9 : Hid (Below w.heap.size w ((((wN.setCell ⟨gy, 28, none⟩ (.int .i64 0)).setCell ⟨gy, 29, none⟩ (.int .u64 8)).setCell ⟨gy, 30, none⟩ (.slice none 0 0)).setCell ⟨gy, 31, none⟩ (.slice none 0 0))) := Lib.hid (((((below_next HB8.out HB8.out.size HBN.out).setCell (p := ⟨gy, 28, none⟩) hwg _).setCell (p := ⟨gy, 29, none⟩) hwg _).setCell (p := ⟨gy, 30, none⟩) hwg _).setCell (p := ⟨gy, 31, none⟩) hwg _)
  have hwz : ((((wN.setCell ⟨gy, 28, none⟩ (.int .i64 0)).setCell ⟨gy, 29, none⟩ (.int .u64 8)).setCell ⟨gy, 30, none⟩ (.slice none 0 0)).setCell ⟨gy, 31, none⟩ (.slice none 0 0)).heap.size = wN.heap.size := by simp [World.setCell]
  have HL9 := Lib.hid (FAR.out _ _ _ HL8.out (by omega))
  have HR9a := Lib.hid (FAR.out _ _ _ HR8a.out (by omega))
  have HR9b := Lib.hid (FAR.out _ _ _ HR8.out (by omega))
  generalize (((wN.setCell ⟨gy, 28, none⟩ (.int .i64 0)).setCell ⟨gy, 29, none⟩ (.int .u64 8)).setCell ⟨gy, 30, none⟩ (.slice none 0 0)).setCell ⟨gy, 31, none⟩ (.slice none 0 0) = w9 at *
  rw [← hwz] at HY9
  clear FAR hwz c0 c1 c2 c3 f0 f1 f2 f3 KL KLf KY CN8 HBd HBN HY8 HL8 HR8 HR8a HK8 HB8 y3
  go_upto_region 8 with (fail)
  refine wp_region_lit ?_
  refine wpList_load_row rfl 30 (.tmp 5) rfl w5.heap.size rfl 30 _ (0, 0) _ HL9.out Tryd.underlying30 rfl (by kernel_rfl) ?_
  refine wpList_plain rfl fun K hK => ?_
  go_simp
  refine (CRz.out w9 gy HB9.out HY9.out).mono ?_
  rintro e w10 ⟨rfl, hbw10⟩
  refine hK _ _ ?_
  clear hK K
  refine wpList_run (w' := w10) (v := .tuple #[.agg #[.int .u64 0, .int .i64 0, .bool false, .int .u64 0, .int .u64 0, .string ⟨#[]⟩, .string ⟨#[]⟩, .bool false, .int .u64 0, .int .u64 0, .string ⟨#[]⟩, .string ⟨#[]⟩, .bool false, .int .u64 0, .int .u64 0, .string ⟨#[]⟩, .string ⟨#[]⟩, .int .u64 0, .int .u64 0, .int .u64 0], .int .i64 10]) rfl (by rfl) ?_
  refine wpList_run (w' := w10) (v := .agg #[.int .u64 0, .int .i64 0, .bool false, .int .u64 0, .int .u64 0, .string ⟨#[]⟩, .string ⟨#[]⟩, .bool false, .int .u64 0, .int .u64 0, .string ⟨#[]⟩, .string ⟨#[]⟩, .bool false, .int .u64 0, .int .u64 0, .string ⟨#[]⟩, .string ⟨#[]⟩, .int .u64 0, .int .u64 0, .int .u64 0]) rfl (by rfl) ?_
  refine wpList_run (w' := w10) (v := .int .i64 10) rfl (by rfl) ?_
  refine wpList_run (w' := w10.alloc (.cells zero20 90)) (v := .pointer (some ⟨w10.heap.size, 0, none⟩)) rfl (by kernel_rfl) ?_
  refine wpList_store_row rfl 90 (.tmp 9) (.tmp 59) rfl w10.heap.size #[.int .u64 0, .int .i64 0, .bool false, .int .u64 0, .int .u64 0, .string ⟨#[]⟩, .string ⟨#[]⟩, .bool false, .int .u64 0, .int .u64 0, .string ⟨#[]⟩, .string ⟨#[]⟩, .bool false, .int .u64 0, .int .u64 0, .string ⟨#[]⟩, .string ⟨#[]⟩, .int .u64 0, .int .u64 0, .int .u64 0] (by rfl) (by rfl) 90 _ (Blk.new w10 _ _) info20 rfl (by first | rfl | simp [Value.oneCell']) ?_
  rw [World.setRow_alloc_new]
  have hba : Below w9.heap.size w9 (w10.alloc (.cells #[.int .u64 0, .int .i64 0, .bool false, .int .u64 0, .int .u64 0, .string ⟨#[]⟩, .string ⟨#[]⟩, .bool false, .int .u64 0, .int .u64 0, .string ⟨#[]⟩, .string ⟨#[]⟩, .bool false, .int .u64 0, .int .u64 0, .string ⟨#[]⟩, .string ⟨#[]⟩, .int .u64 0, .int .u64 0, .int .u64 0] 90)) := hbw10.alloc hbw10.size _
  have HB11 := Lib.hid (below_next HB9.out HB9.out.size hba)
  have HR11a := Lib.hid (HR9a.out.next hba)
  have HR11b := Lib.hid (HR9b.out.next hba)
  have HR11 := Lib.hid (Blk.new w10 90 #[.int .u64 0, .int .i64 0, .bool false, .int .u64 0, .int .u64 0, .string ⟨#[]⟩, .string ⟨#[]⟩, .bool false, .int .u64 0, .int .u64 0, .string ⟨#[]⟩, .string ⟨#[]⟩, .bool false, .int .u64 0, .int .u64 0, .string ⟨#[]⟩, .string ⟨#[]⟩, .int .u64 0, .int .u64 0, .int .u64 0])
  have hw910 : w9.heap.size ≤ w10.heap.size := hbw10.size
  clear hbw10 hba HB9 CRz HR9a HR9b HY9
  go_upto_region 9 with (fail)
  generalize w10.alloc (.cells #[.int .u64 0, .int .i64 0, .bool false, .int .u64 0, .int .u64 0, .string ⟨#[]⟩, .string ⟨#[]⟩, .bool false, .int .u64 0, .int .u64 0, .string ⟨#[]⟩, .string ⟨#[]⟩, .bool false, .int .u64 0, .int .u64 0, .string ⟨#[]⟩, .string ⟨#[]⟩, .int .u64 0, .int .u64 0, .int .u64 0] 90) = w11 at *
  refine wp_region_lit ?_
  refine wpList_run (w' := w11) (v := .agg #[.int .u64 1, .int .i64 0, .bool false, .int .u64 0, .int .u64 0, .string ⟨#[]⟩, .string ⟨#[]⟩, .bool false, .int .u64 0, .int .u64 0, .string ⟨#[]⟩, .string ⟨#[]⟩, .bool false, .int .u64 0, .int .u64 0, .string ⟨#[]⟩, .string ⟨#[]⟩, .int .u64 0, .int .u64 0, .int .u64 0]) rfl (by kernel_rfl) ?_
  refine wpList_plain rfl fun K hK => ?_
  go_simp
  refine (CW2.out w11).mono ?_
  rintro e w12 ⟨rfl, hb12⟩
  refine hK _ _ ?_
  clear hK K
  have HB12 := Lib.hid (below_next HB11.out HB11.out.size hb12)
  have HB13 := Lib.hid (HB12.out.alloc HB12.out.size (.cells #[.int .i64 0, .int .u64 0, .slice none 0 0, .slice none 0 0] 30))
  have HR13a := Lib.hid ((HR11a.out.next hb12).alloc (.cells #[.int .i64 0, .int .u64 0, .slice none 0 0, .slice none 0 0] 30))
  have HR13b := Lib.hid ((HR11b.out.next hb12).alloc (.cells #[.int .i64 0, .int .u64 0, .slice none 0 0, .slice none 0 0] 30))
  clear hb12 HB11 HB12 HR11a HR11b HR11 CW2
  go_upto_region 10 with (fail)
  generalize w12.alloc (.cells #[.int .i64 0, .int .u64 0, .slice none 0 0, .slice none 0 0] 30) = w13 at *
  have q19 := (cells20 HR13b.out).2.2.2.2.2.2.2.2.2.2.2.2.2.2.2.2.2.2.2
  refine wp_region_lit ?_
  refine wpList_run (w' := w13) (v := .int .i64 0) rfl (by rfl) ?_
  refine wpList_run (w' := w13) (v := .bool true) rfl (by kernel_rfl) ?_
  refine wpList_run (w' := w13) (v := .bool true) rfl (by rfl) ?_
  refine wpList_step fun K hK => ?_
  rw [if_pos (by rfl)]
  refine wp_load_row 90 (.tmp 3) rfl w3.heap.size rfl 90 _ (0, 0) _ HR13a.out Tryd.underlying90 rfl info20 ?_
  refine hK _ _ ?_
  clear hK K
  refine wpList_runG (w' := w13) (v := .agg #[.int .u64 0, .int .i64 0, .bool false, .int .u64 0, .int .u64 0, .string ⟨#[]⟩, .string ⟨#[]⟩, .bool false, .int .u64 0, .int .u64 0, .string ⟨#[]⟩, .string ⟨#[]⟩, .bool false, .int .u64 0, .int .u64 0, .string ⟨#[]⟩, .string ⟨#[]⟩, .int .u64 0, .int .u64 0, .int .u64 0]) (by rfl) (by kernel_rfl) ?_
  refine wpList_runG (w' := w13) (v := .bool true) (by rfl) (by kernel_rfl) ?_
  go_wp2_with fail
  go_ret
  exact ⟨rfl, HB13.out⟩
end Go.Proofs.YtbgcbcnidjlhnaaDoor.Prim
