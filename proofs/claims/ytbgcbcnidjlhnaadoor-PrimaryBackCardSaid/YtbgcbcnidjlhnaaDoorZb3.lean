/- Texts of my own, laid together: PrimBn, PrimBy, PrimaryBack. -/
import Derived.Test.YtbgcbcnidjlhnaaDoorZb2
import Derived.Deep.RegionHeld3
/- The statement PrimaryBack: the walk, where the block may not be. -/
namespace Go.Proofs.YtbgcbcnidjlhnaaDoor.PrimaryBack
open Go.RowKit Wd Cb Eid EncB CbCopy CbList CbRight CbWrite CbLays CbSame Prim Great
attribute [local go_sem ↓ high] run_prm

set_option maxRecDepth 100000 in
set_option maxHeartbeats 8000000 in
theorem walk_no (p : Prm) (hp : p.ok) (x : Itm) (xv : Value) (at_ : Int) (w : World) (hv : ItemV w 0 w.heap.size x xv) (hT : Tabs w) (hS : Sz w) (hgr : ¬ grt x 1 300 < 0) (hr : pright p = false) :
    Calls Tryd.prog 9 #[p.val, xv, .int .i64 at_] w fun e w' => e = .returned (.bool true) ∧ Below w.heap.size w w' := by
  obtain ⟨A1, c1, A2, c2, rfl, rk, rn_, -, -, -, -, hs1, hs2, hs3⟩ := hv.open_
  have HTW := Lib.hid (fun (W : World) (h : Below w.heap.size w W) => And.intro (hT.below h (Nat.le_refl _)) (hS.below h (Nat.le_refl _)))
  have CAl := Lib.hid (fun (W : World) (h : Below w.heap.size w W) => alive06_any W (HTW.out W h).1 (HTW.out W h).2)
  have HV := Lib.hid (fun (W : World) (h : Below w.heap.size w W) => (hv.below h).more (Nat.le_refl _) h.size)
  have CG6 := Lib.hid (fun W => great06_any p W)
  have CG3 := Lib.hid (fun (W : World) (h : Below w.heap.size w W) => great_rec (deep x) x _ 1 300 W (Nat.le_refl _) (HV.out W h) (by omega) (by omega) (by omega) (by omega))
  have HB0 := Lib.hid (((Below.refl w.heap.size w).alloc (Nat.le_refl _) (.cells p.cells 90)).alloc (by simp) (.cells #[.int .i64 x.kind, .int .u64 x.num, .slice A1 x.bs.length c1, .slice A2 x.sub.length c2] 30))
  have HP0 := Lib.hid ((Blk.new w 90 p.cells).alloc (.cells #[.int .i64 x.kind, .int .u64 x.num, .slice A1 x.bs.length c1, .slice A2 x.sub.length c2] 30))
  have HX0 := Lib.hid (blk_new1 w (.cells p.cells 90) 30 #[.int .i64 x.kind, .int .u64 x.num, .slice A1 x.bs.length c1, .slice A2 x.sub.length c2])
  have hgk := grt_ok x 1 300 (by omega) (by omega) (by omega)
  have hge := grt_le x 1 300 (by omega)
  have hE : (enc x).length ≤ 910000 := by omega
  have hd : deep x ≤ 100 := by omega
  have hbx := enc_bs x
  have hdx := deep_sub x
  have hsn := sane_of hv
  have hqo := prI_ok hsn (by omega)
  have hqr := prI_right x
  have CRx := Lib.hid (fun (W : World) (h : Below w.heap.size w W) => pread_any x _ W (HV.out W h) (by omega) (by omega) (HTW.out W h).1 (HTW.out W h).2)
  have CWq := Lib.hid (fun (W : World) (h : Below w.heap.size w W) => show Calls Tryd.prog 44 #[(prI x).val] W (fun e w' => ∃ g, e = .returned (.tuple #[listV (some ⟨g, 0, none⟩) (pw (prI x)).sub.length (pw (prI x)).sub.length, .int .i64 0]) ∧ Hid (ItemV w' 0 w'.heap.size (pw (prI x)) (listV (some ⟨g, 0, none⟩) (pw (prI x)).sub.length (pw (prI x)).sub.length)) ∧ Below W.heap.size W w') from by
    refine (pwrite_yes (prI x) hqo W (HTW.out W h).1 (HTW.out W h).2 hqr).mono ?_
    rintro e w' ⟨v, rfl, HL, hb⟩
    obtain ⟨g, rfl, h1, h2⟩ := HL.out
    have hpl := pw_list hqr
    exact ⟨g, rfl, Lib.hid ((Laid.item (w := W) ⟨g, rfl, h1, h2⟩ hpl.1 hpl.2.1).more (Nat.zero_le _) (Nat.le_refl _)), hb⟩)
  have HWAY := Lib.hid (fun (h : prE x = 0) => (pr_way h).2)
  have CSq := Lib.hid (fun (W : World) (v : Value) (h : Below w.heap.size w W) (hi : ItemV W 0 W.heap.size (pw (prI x)) v) => sameTop_any (pw (prI x)) x v _ W.heap.size W hi (HV.out W h) (Nat.le_refl _) (by have h1 := size_enc (pw (prI x)); have h2 := (pw_list hqr).2.2.1; omega) (by have h2 := (pw_list hqr).2.2.2; omega))
  have HI := Lib.hid (fun (W : World) (h : Below w.heap.size w W) => (hs3.below h).more (lo' := 0) (hi' := W.heap.size) (Nat.le_refl _) h.size)
  have CSe := Lib.hid (fun (W : World) (h : Below w.heap.size w W) => seal_any x.sub A2 W.heap.size c2 at_ W (HI.out W h) (Nat.le_refl _) hs1 hs2 (by omega) (by omega) (HTW.out W h).1 (HTW.out W h).2)
  have HSC := Lib.hid (sealE_cases x.sub at_)
  have HOS := Lib.hid (fun (h : sealE x.sub at_ = 0) => open_sealed h)
  have HSI := Lib.hid (fun (h : sealE x.sub at_ = 0) => sealI_list h)
  have COp := Lib.hid (fun (W : World) (v : Value) (h : Below w.heap.size w W) (h0 : sealE x.sub at_ = 0) (hi : ItemV W 0 W.heap.size (sealI x.sub at_) v) => open_any (sealI x.sub at_) v at_ W hi (by have := (sealI_len h0).2.1; omega) (by have := (sealI_len h0).2.2.1; omega) (HTW.out W h).1 (HTW.out W h).2)
  have HSM := Lib.hid (fun (h0 : sealE x.sub at_ = 0) => show (sealI x.sub at_).sub.length ≤ maxLen from by have h1 := (sealI_len h0).1; have h2 := length_le_sizes x.sub; have h3 := sizes_enc x.sub; unfold maxLen; omega)
  have CLs := Lib.hid (fun (W : World) (B : Option Addr) (c : Nat) (hi : ItemsV W 0 W.heap.size x.sub B) (h1 : x.sub.length ≤ c) (h2 : c ≤ maxLen) => show Calls Tryd.prog 46 #[.slice B x.sub.length c] W (fun e w' => ∃ A', e = .returned (listV A' x.sub.length x.sub.length) ∧ Hid (ItemV w' 0 w'.heap.size (lst x.sub) (listV A' x.sub.length x.sub.length)) ∧ Below W.heap.size W w') from by
    refine (list_any x.sub B W.heap.size c W hi (Nat.le_refl _) h1 h2 (by have := wides_enc x.sub; omega) (by have := sizes_enc x.sub; omega) (by omega)).mono ?_
    rintro e w' ⟨A', rfl, HL, hb⟩
    exact ⟨A', rfl, Lib.hid (item_list (HL.out.more (Nat.zero_le _) (Nat.le_refl _)) rfl (Nat.le_refl _) (Nat.le_trans h1 h2)), hb⟩)
  have CSm := Lib.hid (fun (W : World) (v u : Value) (hi : ItemV W 0 W.heap.size (lst x.sub) v) (hj : ItemV W 0 W.heap.size (lst x.sub) u) => show Calls Tryd.prog 35 #[v, u] W (fun e w' => e = .returned (.bool true) ∧ Below W.heap.size W w') from by
    have := sameTop_any (lst x.sub) (lst x.sub) v u W.heap.size W hi hj (Nat.le_refl _) (by have h1 : size (lst x.sub) = 1 + sizes x.sub := rfl; have h2 := sizes_enc x.sub; omega) (by have h1 : deep (lst x.sub) = 1 + deeps x.sub := rfl; omega)
    rw [same_self] at this
    exact this)
  have dg : decide (grt x 1 300 < 0) = false := decide_eq_false hgr
  have CWp := Lib.hid (fun (W : World) => pwrite_no p hp W hr)
  have HS1 := Lib.hid hs1
  clear hv hT hS hgr hp hr hgk hge hE hd hbx hdx hsn hqo hqr HTW rk rn_ hs1
  obtain ⟨f, sm, ⟨di, dn, ds, dh, dd⟩, ⟨ri, rn, rs, rh, rd⟩, ⟨⟨ii, inn, iss, ih, idd⟩, t, q⟩, lf⟩ := p
  generalize x.kind = xk at *
  generalize x.num = xn at *
  generalize x.bs.length = xb at *
  go_enter Tryd.func9, Tryd.ntmps9
  go_upto_region 1 with (fail)
  generalize (w.alloc (.cells #[.int .u64 f, .int .i64 sm, .bool di, .int .u64 dn, .int .u64 ds, .string dh, .string dd, .bool ri, .int .u64 rn, .int .u64 rs, .string rh, .string rd, .bool ii, .int .u64 inn, .int .u64 iss, .string ih, .string idd, .int .u64 t, .int .u64 q, .int .u64 lf] 90)).alloc (.cells #[.int .i64 xk, .int .u64 xn, .slice A1 xb c1, .slice A2 x.sub.length c2] 30) = w0 at *
  refine wp_region_lit ?_
  refine wpList_load_row rfl 90 (.tmp 3) rfl w.heap.size rfl 90 _ (0, 0) _ HP0.out Tryd.underlying90 rfl info20 ?_
  refine wpList_plain rfl fun K hK => ?_
  go_simp
  refine (CG6.out w0).mono ?_
  rintro e w1 ⟨b, rfl, hb1⟩
  refine hK _ _ ?_
  clear hK K
  have HB1 := Lib.hid (below_next HB0.out HB0.out.size hb1)
  have HP1 := Lib.hid (HP0.out.next hb1)
  have HX1 := Lib.hid (HX0.out.next hb1)
  clear hb1 CG6 HB0 HP0 HX0
  obtain ⟨⟨x0, x1, x2, x3⟩, -⟩ := cells_item HX1.out
  cases b
  · go_wp2_with fail
    refine (CG3.out w1 HB1.out).mono ?_
    rintro e w1' ⟨rfl, hb⟩
    have HB1' := Lib.hid (below_next HB1.out HB1.out.size hb)
    have HP1' := Lib.hid (HP1.out.next hb)
    have HX1' := Lib.hid (HX1.out.next hb)
    clear hb HB1 HP1 HX1 x0 x1 x2 x3 CG3 HV
    rename World => w1
    have HB1 := HB1'
    have HP1 := HP1'
    have HX1 := HX1'
    clear HB1' HP1' HX1'
    obtain ⟨⟨x0, x1, x2, x3⟩, -⟩ := cells_item HX1.out
    go_upto_region 3 with (fail)
    refine wp_region_lit ?_
    refine wpList_load_row rfl 90 (.tmp 3) rfl w.heap.size rfl 90 _ (0, 0) _ HP1.out Tryd.underlying90 rfl info20 ?_
    refine wpList_plain rfl fun K hK => ?_
    go_simp
    refine (CWp.out w1).mono ?_
    rintro e w2 ⟨rfl, hb2⟩
    refine hK _ _ ?_
    clear hK K
    have hba : Below w1.heap.size w1 (w2.alloc (.cells #[.int .i64 0, .int .u64 0, .slice none 0 0, .slice none 0 0] 30)) := hb2.alloc hb2.size _
    have HB5 := Lib.hid (below_next HB1.out HB1.out.size hba)
    have HX5 := Lib.hid (HX1.out.next hba)
    clear hb2 HB1 HP1 HX1 CWp x0 x1 x2 x3 hba
    go_upto_region 8 with (fail)
    generalize w2.alloc (.cells #[.int .i64 0, .int .u64 0, .slice none 0 0, .slice none 0 0] 30) = w5 at *
    obtain ⟨⟨x0, x1, x2, x3⟩, -⟩ := cells_item HX5.out
    generalize prI x = Q at *
    generalize hE : prE x = E at *
    have HEE := Lib.hid hE
    clear hE
    have HQ' := Lib.hid (rfl : Q = Q)
    obtain ⟨f', sm', ⟨di', dn', ds', dh', dd'⟩, ⟨ri', rn', rs', rh', rd'⟩, ⟨⟨ii', inn', iss', ih', idd'⟩, t', q'⟩, lf'⟩ := Q
    refine wp_region_lit ?_
    refine wpList_load_row rfl 30 (.tmp 4) rfl (w.heap.size + 1) rfl 30 _ (0, 0) _ HX5.out Tryd.underlying30 rfl (by kernel_rfl) ?_
    refine wpList_plain rfl fun K hK => ?_
    go_simp
    refine (CRx.out w5 HB5.out).mono ?_
    rintro e w6 ⟨rfl, hb6⟩
    refine hK _ _ ?_
    clear hK K
    refine wpList_run (w' := w6) (v := .tuple #[.agg #[.int .u64 f', .int .i64 sm', .bool di', .int .u64 dn', .int .u64 ds', .string dh', .string dd', .bool ri', .int .u64 rn', .int .u64 rs', .string rh', .string rd', .bool ii', .int .u64 inn', .int .u64 iss', .string ih', .string idd', .int .u64 t', .int .u64 q', .int .u64 lf'], .int .i64 E]) rfl (by rfl) ?_
    refine wpList_run (w' := w6) (v := .agg #[.int .u64 f', .int .i64 sm', .bool di', .int .u64 dn', .int .u64 ds', .string dh', .string dd', .bool ri', .int .u64 rn', .int .u64 rs', .string rh', .string rd', .bool ii', .int .u64 inn', .int .u64 iss', .string ih', .string idd', .int .u64 t', .int .u64 q', .int .u64 lf']) rfl (by rfl) ?_
    refine wpList_run (w' := w6) (v := .int .i64 E) rfl (by rfl) ?_
    refine wpList_run (w' := w6.alloc (.cells zero20 90)) (v := .pointer (some ⟨w6.heap.size, 0, none⟩)) rfl (by kernel_rfl) ?_
    refine wpList_store_row rfl 90 (.tmp 11) (.tmp 49) rfl w6.heap.size #[.int .u64 f', .int .i64 sm', .bool di', .int .u64 dn', .int .u64 ds', .string dh', .string dd', .bool ri', .int .u64 rn', .int .u64 rs', .string rh', .string rd', .bool ii', .int .u64 inn', .int .u64 iss', .string ih', .string idd', .int .u64 t', .int .u64 q', .int .u64 lf'] (by rfl) (by rfl) 90 _ (Blk.new w6 _ _) info20 rfl (by first | rfl | simp [Value.oneCell']) ?_
    rw [World.setRow_alloc_new]
    have hba : Below w5.heap.size w5 (w6.alloc (.cells #[.int .u64 f', .int .i64 sm', .bool di', .int .u64 dn', .int .u64 ds', .string dh', .string dd', .bool ri', .int .u64 rn', .int .u64 rs', .string rh', .string rd', .bool ii', .int .u64 inn', .int .u64 iss', .string ih', .string idd', .int .u64 t', .int .u64 q', .int .u64 lf'] 90)) := hb6.alloc hb6.size _
    have HB7 := Lib.hid (below_next HB5.out HB5.out.size hba)
    have HX7 := Lib.hid (HX5.out.next hba)
    have HQ7 := Lib.hid (Blk.new w6 90 #[.int .u64 f', .int .i64 sm', .bool di', .int .u64 dn', .int .u64 ds', .string dh', .string dd', .bool ri', .int .u64 rn', .int .u64 rs', .string rh', .string rd', .bool ii', .int .u64 inn', .int .u64 iss', .string ih', .string idd', .int .u64 t', .int .u64 q', .int .u64 lf'])
    clear hb6 hba HB5 HX5 CRx x0 x1 x2 x3
    go_upto_region 9 with (fail)
    generalize w6.alloc (.cells #[.int .u64 f', .int .i64 sm', .bool di', .int .u64 dn', .int .u64 ds', .string dh', .string dd', .bool ri', .int .u64 rn', .int .u64 rs', .string rh', .string rd', .bool ii', .int .u64 inn', .int .u64 iss', .string ih', .string idd', .int .u64 t', .int .u64 q', .int .u64 lf'] 90) = w7 at *
    refine wp_region_lit ?_
    refine wpList_load_row rfl 90 (.tmp 11) rfl w6.heap.size rfl 90 _ (0, 0) _ HQ7.out Tryd.underlying90 rfl info20 ?_
    refine wpList_plain rfl fun K hK => ?_
    go_simp
    refine (CWq.out w7 HB7.out).mono ?_
    rintro e w8 ⟨gq, rfl, HIq, hb8⟩
    refine hK _ _ ?_
    clear hK K
    have HB8 := Lib.hid (below_next HB7.out HB7.out.size hb8)
    have HX8 := Lib.hid (HX7.out.next hb8)
    generalize hql : (pw ⟨f', sm', ⟨di', dn', ds', dh', dd'⟩, ⟨ri', rn', rs', rh', rd'⟩, ⟨⟨ii', inn', iss', ih', idd'⟩, t', q'⟩, lf'⟩) = PW at *
    generalize PW.sub.length = ql at *
    clear hql hb8 HB7 HX7 HQ7 CWq
    have hba : Below w8.heap.size w8 (w8.alloc (.cells #[.int .i64 4, .int .u64 0, .slice none 0 0, .slice (some ⟨gq, 0, none⟩) ql ql] 30)) := (Below.refl _ _).alloc (Nat.le_refl _) _
    have HB9 := Lib.hid (below_next HB8.out HB8.out.size hba)
    have HX9 := Lib.hid (HX8.out.next hba)
    have HK9 := Lib.hid (Blk.new w8 30 #[.int .i64 4, .int .u64 0, .slice none 0 0, .slice (some ⟨gq, 0, none⟩) ql ql])
    have HIq9 := Lib.hid ((HIq.out.below hba).more (Nat.le_refl _) hba.size)
    clear HB8 HX8 HIq hba
    go_upto_region 10 with (fail)
    generalize w8.alloc (.cells #[.int .i64 4, .int .u64 0, .slice none 0 0, .slice (some ⟨gq, 0, none⟩) ql ql] 30) = w9 at *
    obtain ⟨⟨x0, x1, x2, x3⟩, -⟩ := cells_item HX9.out
    obtain ⟨⟨z0, z1, z2, z3⟩, -⟩ := cells_item HK9.out
    have HSq := Lib.hid (CSq.out w9 _ HB9.out HIq9.out)
    clear CSq HIq9
    by_cases hE0 : E = 0
    · subst hE0
      have hsm : same PW x = true := by rw [HWAY.out rfl, same_self]
      rw [hsm] at HSq
      clear hsm
      clear HWAY HEE
      go_wp2_with fail
      refine HSq.out.mono ?_
      rintro e w10 ⟨rfl, hb10⟩
      have HB10 := Lib.hid (below_next HB9.out HB9.out.size hb10)
      have HX10 := Lib.hid (HX9.out.next hb10)
      clear hb10 HSq HB9 HX9 HK9 x0 x1 x2 x3 z0 z1 z2 z3
      obtain ⟨⟨x0, x1, x2, x3⟩, -⟩ := cells_item HX10.out
      go_wp2_with fail
      refine (CSe.out w10 HB10.out).mono ?_
      rintro e w11 ⟨v11, rfl, HO, hb11⟩
      have HB11 := Lib.hid (below_next HB10.out HB10.out.size hb11)
      have HX11 := Lib.hid (HX10.out.next hb11)
      have hz11 : w10.heap.size ≤ w11.heap.size := hb11.size
      clear hb11 HB10 HX10 CSe x0 x1 x2 x3
      by_cases hs0 : sealE x.sub at_ = 0
      · rw [hs0]
        obtain ⟨g, rfl, hg1, hg2⟩ := HO.out.1 hs0
        have HIs := Lib.hid ((Laid.item (w := w10) ⟨g, rfl, hg1, hg2⟩ (HSI.out hs0) (HSM.out hs0)).more (lo' := 0) (hi' := w11.heap.size) (Nat.zero_le _) (Nat.le_refl _))
        generalize (sealI x.sub at_).sub.length = sl at *
        have hba : Below w11.heap.size w11 (w11.alloc (.cells #[.int .i64 4, .int .u64 0, .slice none 0 0, .slice (some ⟨g, 0, none⟩) sl sl] 30)) := (Below.refl _ _).alloc (Nat.le_refl _) _
        have HB12 := Lib.hid (below_next HB11.out HB11.out.size hba)
        have HX12 := Lib.hid (HX11.out.next hba)
        have HK12 := Lib.hid (Blk.new w11 30 #[.int .i64 4, .int .u64 0, .slice none 0 0, .slice (some ⟨g, 0, none⟩) sl sl])
        have HOx := Lib.hid (COp.out _ _ HB12.out hs0 ((HIs.out.below hba).more (Nat.le_refl _) hba.size))
        have hos := HOS.out hs0
        clear hg1 hg2 HO HIs HB11 HX11 HSI HSM HSC HOS COp hba
        go_upto_region 15 with (fail)
        generalize w11.alloc (.cells #[.int .i64 4, .int .u64 0, .slice none 0 0, .slice (some ⟨g, 0, none⟩) sl sl] 30) = w12 at *
        obtain ⟨⟨z0, z1, z2, z3⟩, -⟩ := cells_item HK12.out
        go_wp2_with fail
        refine HOx.out.mono ?_
        rintro e w13 ⟨⟨AO, rfl, HIo⟩, hb13⟩
        rw [hos.1, hos.2]
        have hio := HIo.out
        rw [hos.2] at hio
        have HIo' := Lib.hid (hio.more (lo' := 0) (hi' := w13.heap.size) (Nat.zero_le _) (Nat.le_refl _))
        have HB13 := Lib.hid (below_next HB12.out HB12.out.size hb13)
        have HX13 := Lib.hid (HX12.out.next hb13)
        clear hb13 HIo hio hos HOx HB12 HX12 HK12 z0 z1 z2 z3 hs0
        have hlm : x.sub.length ≤ maxLen := Nat.le_trans HS1.out hs2
        have HAl := Lib.hid (CAl.out w13.drew (HB13.out.drew))
        have CL1 := Lib.hid (fun (W : World) (h : Below w13.heap.size w13 W) => CLs.out W AO x.sub.length ((HIo'.out.below h).more (Nat.le_refl _) h.size) (Nat.le_refl _) hlm)
        have CL2 := Lib.hid (fun (W : World) (h : Below w13.heap.size w13 W) => CLs.out W A2 c2 (HI.out W (below_next HB13.out HB13.out.size h)) HS1.out hs2)
        have KX := Lib.hid (fun (W : World) (h : Below w13.heap.size w13 W) => (cells4 (HX13.out.next h)).2.2.2)
        have HBd := Lib.hid ((Below.refl w13.heap.size w13).drew)
        clear CLs HI HIo' CAl
        go_upto_region 16 with (fail)
        go_region_held3 (fun w' => w'.cell? ⟨w.heap.size + 1, 3, none⟩ = some (.slice A2 x.sub.length c2))
          (first | with_reducible exact KX.out _ HBd.out | with_reducible exact KX.out _ HBA.out | with_reducible exact KX.out _ HBB.out | with_reducible exact KX.out _ HBC.out | with_reducible exact KX.out _ HBD.out | fail)
          (first | (go_at_call 37; (with_reducible refine HAl.out.mono ?_); rintro e wA ⟨rfl, hbA⟩; have HBA := Lib.hid (below_next HBd.out HBd.out.size hbA); clear hbA) | (go_at_call 46; (with_reducible refine (CL1.out _ HBA.out).mono ?_); rintro e wB ⟨AL1, rfl, HL1, hbB⟩; have HBB := Lib.hid (below_next HBA.out HBA.out.size hbB); clear hbB) | (go_at_call 46; (with_reducible refine (CL2.out _ HBB.out).mono ?_); rintro e wC ⟨AL2, rfl, HL2, hbC⟩; have HBC := Lib.hid (below_next HBB.out HBB.out.size hbC); have HL1C := Lib.hid ((HL1.out.below hbC).more (Nat.le_refl _) hbC.size); clear hbC) | (go_at_call 35; (with_reducible refine (CSm.out _ _ _ HL1C.out HL2.out).mono ?_); rintro e wD ⟨rfl, hbD⟩; have HBD := Lib.hid (below_next HBC.out HBC.out.size hbD); clear hbD) | fail)
        have HBE := Lib.hid (below_next HB13.out HB13.out.size HBD.out)
        clear HAl CL1 CL2 KX HBd HBA HBB HBC HBD CSm
        go_wp2_with fail
        go_ret
        exact ⟨rfl, HBE.out⟩
      · obtain rfl := HO.out.2 hs0
        have HB12 := Lib.hid (HB11.out.alloc HB11.out.size (.cells #[.int .i64 0, .int .u64 0, .slice none 0 0, .slice none 0 0] 30))
        have HA12 := Lib.hid (CAl.out _ HB12.out)
        rcases HSC.out with h0 | h0 | h0
        · exact absurd h0 hs0
        all_goals
          rw [h0]
          clear HO HB11 HX11 HSI HSM HSC HOS COp CAl hs0 h0
          go_wp2_with fail
          refine HA12.out.mono ?_
          rintro e w13 ⟨rfl, hb⟩
          have HBz := Lib.hid (below_next HB12.out HB12.out.size hb)
          clear hb
          go_wp2_with fail
          go_ret
          exact ⟨rfl, HBz.out⟩
    · have e1 : (E == 0) = false := by simpa using hE0
      have HB10 := HB9
      have HX10 := HX9
      have w10e : w9 = w9 := rfl
      clear HWAY HSq HK9 z0 z1 z2 z3 hE0
      go_wp2_with fail
      refine (CSe.out w9 HB10.out).mono ?_
      rintro e w11 ⟨v11, rfl, HO, hb11⟩
      have HB11 := Lib.hid (below_next HB10.out HB10.out.size hb11)
      have HX11 := Lib.hid (HX10.out.next hb11)
      have hz11 : w9.heap.size ≤ w11.heap.size := hb11.size
      clear hb11 HB10 HX10 CSe x0 x1 x2 x3
      by_cases hs0 : sealE x.sub at_ = 0
      · rw [hs0]
        obtain ⟨g, rfl, hg1, hg2⟩ := HO.out.1 hs0
        have HIs := Lib.hid ((Laid.item (w := w9) ⟨g, rfl, hg1, hg2⟩ (HSI.out hs0) (HSM.out hs0)).more (lo' := 0) (hi' := w11.heap.size) (Nat.zero_le _) (Nat.le_refl _))
        generalize (sealI x.sub at_).sub.length = sl at *
        have hba : Below w11.heap.size w11 (w11.alloc (.cells #[.int .i64 4, .int .u64 0, .slice none 0 0, .slice (some ⟨g, 0, none⟩) sl sl] 30)) := (Below.refl _ _).alloc (Nat.le_refl _) _
        have HB12 := Lib.hid (below_next HB11.out HB11.out.size hba)
        have HX12 := Lib.hid (HX11.out.next hba)
        have HK12 := Lib.hid (Blk.new w11 30 #[.int .i64 4, .int .u64 0, .slice none 0 0, .slice (some ⟨g, 0, none⟩) sl sl])
        have HOx := Lib.hid (COp.out _ _ HB12.out hs0 ((HIs.out.below hba).more (Nat.le_refl _) hba.size))
        have hos := HOS.out hs0
        clear hg1 hg2 HO HIs HB11 HX11 HSI HSM HSC HOS COp hba
        go_upto_region 15 with (fail)
        generalize w11.alloc (.cells #[.int .i64 4, .int .u64 0, .slice none 0 0, .slice (some ⟨g, 0, none⟩) sl sl] 30) = w12 at *
        obtain ⟨⟨z0, z1, z2, z3⟩, -⟩ := cells_item HK12.out
        go_wp2_with fail
        refine HOx.out.mono ?_
        rintro e w13 ⟨⟨AO, rfl, HIo⟩, hb13⟩
        rw [hos.1, hos.2]
        have hio := HIo.out
        rw [hos.2] at hio
        have HIo' := Lib.hid (hio.more (lo' := 0) (hi' := w13.heap.size) (Nat.zero_le _) (Nat.le_refl _))
        have HB13 := Lib.hid (below_next HB12.out HB12.out.size hb13)
        have HX13 := Lib.hid (HX12.out.next hb13)
        clear hb13 HIo hio hos HOx HB12 HX12 HK12 z0 z1 z2 z3 hs0
        have hlm : x.sub.length ≤ maxLen := Nat.le_trans HS1.out hs2
        have HAl := Lib.hid (CAl.out w13.drew (HB13.out.drew))
        have CL1 := Lib.hid (fun (W : World) (h : Below w13.heap.size w13 W) => CLs.out W AO x.sub.length ((HIo'.out.below h).more (Nat.le_refl _) h.size) (Nat.le_refl _) hlm)
        have CL2 := Lib.hid (fun (W : World) (h : Below w13.heap.size w13 W) => CLs.out W A2 c2 (HI.out W (below_next HB13.out HB13.out.size h)) HS1.out hs2)
        have KX := Lib.hid (fun (W : World) (h : Below w13.heap.size w13 W) => (cells4 (HX13.out.next h)).2.2.2)
        have HBd := Lib.hid ((Below.refl w13.heap.size w13).drew)
        clear CLs HI HIo' CAl
        go_upto_region 16 with (fail)
        go_region_held3 (fun w' => w'.cell? ⟨w.heap.size + 1, 3, none⟩ = some (.slice A2 x.sub.length c2))
          (first | with_reducible exact KX.out _ HBd.out | with_reducible exact KX.out _ HBA.out | with_reducible exact KX.out _ HBB.out | with_reducible exact KX.out _ HBC.out | with_reducible exact KX.out _ HBD.out | fail)
          (first | (go_at_call 37; (with_reducible refine HAl.out.mono ?_); rintro e wA ⟨rfl, hbA⟩; have HBA := Lib.hid (below_next HBd.out HBd.out.size hbA); clear hbA) | (go_at_call 46; (with_reducible refine (CL1.out _ HBA.out).mono ?_); rintro e wB ⟨AL1, rfl, HL1, hbB⟩; have HBB := Lib.hid (below_next HBA.out HBA.out.size hbB); clear hbB) | (go_at_call 46; (with_reducible refine (CL2.out _ HBB.out).mono ?_); rintro e wC ⟨AL2, rfl, HL2, hbC⟩; have HBC := Lib.hid (below_next HBB.out HBB.out.size hbC); have HL1C := Lib.hid ((HL1.out.below hbC).more (Nat.le_refl _) hbC.size); clear hbC) | (go_at_call 35; (with_reducible refine (CSm.out _ _ _ HL1C.out HL2.out).mono ?_); rintro e wD ⟨rfl, hbD⟩; have HBD := Lib.hid (below_next HBC.out HBC.out.size hbD); clear hbD) | fail)
        have HBE := Lib.hid (below_next HB13.out HB13.out.size HBD.out)
        clear HAl CL1 CL2 KX HBd HBA HBB HBC HBD CSm
        go_wp2_with fail
        go_ret
        exact ⟨rfl, HBE.out⟩
      · obtain rfl := HO.out.2 hs0
        have HB12 := Lib.hid (HB11.out.alloc HB11.out.size (.cells #[.int .i64 0, .int .u64 0, .slice none 0 0, .slice none 0 0] 30))
        have HA12 := Lib.hid (CAl.out _ HB12.out)
        rcases HSC.out with h0 | h0 | h0
        · exact absurd h0 hs0
        all_goals
          rw [h0]
          clear HO HB11 HX11 HSI HSM HSC HOS COp CAl hs0 h0
          go_wp2_with fail
          refine HA12.out.mono ?_
          rintro e w13 ⟨rfl, hb⟩
          have HBz := Lib.hid (below_next HB12.out HB12.out.size hb)
          clear hb
          go_wp2_with fail
          go_ret
          exact ⟨rfl, HBz.out⟩
  · go_wp2_with fail
    refine (CAl.out w1 HB1.out).mono ?_
    rintro e w2 ⟨rfl, hb⟩
    have HBz := Lib.hid (below_next HB1.out HB1.out.size hb)
    clear hb
    go_wp2_with fail
    go_ret
    exact ⟨rfl, HBz.out⟩
end Go.Proofs.YtbgcbcnidjlhnaaDoor.PrimaryBack
/- The statement PrimaryBack: the walk, where the block may be. -/
namespace Go.Proofs.YtbgcbcnidjlhnaaDoor.PrimaryBack
open Go.RowKit Wd Cb Eid EncB CbCopy CbList CbRight CbWrite CbLays CbSame Prim Great
attribute [local go_sem ↓ high] run_prm

set_option maxRecDepth 100000 in
set_option maxHeartbeats 8000000 in
theorem walk_yes (p : Prm) (hp : p.ok) (x : Itm) (xv : Value) (at_ : Int) (w : World) (hv : ItemV w 0 w.heap.size x xv) (hT : Tabs w) (hS : Sz w) (hgr : ¬ grt x 1 300 < 0) (hr : pright p = true) :
    Calls Tryd.prog 9 #[p.val, xv, .int .i64 at_] w fun e w' => e = .returned (.bool true) ∧ Below w.heap.size w w' := by
  obtain ⟨A1, c1, A2, c2, rfl, rk, rn_, -, -, -, -, hs1, hs2, hs3⟩ := hv.open_
  have HTW := Lib.hid (fun (W : World) (h : Below w.heap.size w W) => And.intro (hT.below h (Nat.le_refl _)) (hS.below h (Nat.le_refl _)))
  have CAl := Lib.hid (fun (W : World) (h : Below w.heap.size w W) => alive06_any W (HTW.out W h).1 (HTW.out W h).2)
  have HV := Lib.hid (fun (W : World) (h : Below w.heap.size w W) => (hv.below h).more (Nat.le_refl _) h.size)
  have CG6 := Lib.hid (fun W => great06_any p W)
  have CG3 := Lib.hid (fun (W : World) (h : Below w.heap.size w W) => great_rec (deep x) x _ 1 300 W (Nat.le_refl _) (HV.out W h) (by omega) (by omega) (by omega) (by omega))
  have HB0 := Lib.hid (((Below.refl w.heap.size w).alloc (Nat.le_refl _) (.cells p.cells 90)).alloc (by simp) (.cells #[.int .i64 x.kind, .int .u64 x.num, .slice A1 x.bs.length c1, .slice A2 x.sub.length c2] 30))
  have HP0 := Lib.hid ((Blk.new w 90 p.cells).alloc (.cells #[.int .i64 x.kind, .int .u64 x.num, .slice A1 x.bs.length c1, .slice A2 x.sub.length c2] 30))
  have HX0 := Lib.hid (blk_new1 w (.cells p.cells 90) 30 #[.int .i64 x.kind, .int .u64 x.num, .slice A1 x.bs.length c1, .slice A2 x.sub.length c2])
  have hgk := grt_ok x 1 300 (by omega) (by omega) (by omega)
  have hge := grt_le x 1 300 (by omega)
  have hE : (enc x).length ≤ 910000 := by omega
  have hd : deep x ≤ 100 := by omega
  have hbx := enc_bs x
  have hdx := deep_sub x
  have hsn := sane_of hv
  have hqo := prI_ok hsn (by omega)
  have hqr := prI_right x
  have CRx := Lib.hid (fun (W : World) (h : Below w.heap.size w W) => pread_any x _ W (HV.out W h) (by omega) (by omega) (HTW.out W h).1 (HTW.out W h).2)
  have CWq := Lib.hid (fun (W : World) (h : Below w.heap.size w W) => show Calls Tryd.prog 44 #[(prI x).val] W (fun e w' => ∃ g, e = .returned (.tuple #[listV (some ⟨g, 0, none⟩) (pw (prI x)).sub.length (pw (prI x)).sub.length, .int .i64 0]) ∧ Hid (ItemV w' 0 w'.heap.size (pw (prI x)) (listV (some ⟨g, 0, none⟩) (pw (prI x)).sub.length (pw (prI x)).sub.length)) ∧ Below W.heap.size W w') from by
    refine (pwrite_yes (prI x) hqo W (HTW.out W h).1 (HTW.out W h).2 hqr).mono ?_
    rintro e w' ⟨v, rfl, HL, hb⟩
    obtain ⟨g, rfl, h1, h2⟩ := HL.out
    have hpl := pw_list hqr
    exact ⟨g, rfl, Lib.hid ((Laid.item (w := W) ⟨g, rfl, h1, h2⟩ hpl.1 hpl.2.1).more (Nat.zero_le _) (Nat.le_refl _)), hb⟩)
  have HWAY := Lib.hid (fun (h : prE x = 0) => (pr_way h).2)
  have CSq := Lib.hid (fun (W : World) (v : Value) (h : Below w.heap.size w W) (hi : ItemV W 0 W.heap.size (pw (prI x)) v) => sameTop_any (pw (prI x)) x v _ W.heap.size W hi (HV.out W h) (Nat.le_refl _) (by have h1 := size_enc (pw (prI x)); have h2 := (pw_list hqr).2.2.1; omega) (by have h2 := (pw_list hqr).2.2.2; omega))
  have HI := Lib.hid (fun (W : World) (h : Below w.heap.size w W) => (hs3.below h).more (lo' := 0) (hi' := W.heap.size) (Nat.le_refl _) h.size)
  have CSe := Lib.hid (fun (W : World) (h : Below w.heap.size w W) => seal_any x.sub A2 W.heap.size c2 at_ W (HI.out W h) (Nat.le_refl _) hs1 hs2 (by omega) (by omega) (HTW.out W h).1 (HTW.out W h).2)
  have HSC := Lib.hid (sealE_cases x.sub at_)
  have HOS := Lib.hid (fun (h : sealE x.sub at_ = 0) => open_sealed h)
  have HSI := Lib.hid (fun (h : sealE x.sub at_ = 0) => sealI_list h)
  have COp := Lib.hid (fun (W : World) (v : Value) (h : Below w.heap.size w W) (h0 : sealE x.sub at_ = 0) (hi : ItemV W 0 W.heap.size (sealI x.sub at_) v) => open_any (sealI x.sub at_) v at_ W hi (by have := (sealI_len h0).2.1; omega) (by have := (sealI_len h0).2.2.1; omega) (HTW.out W h).1 (HTW.out W h).2)
  have HSM := Lib.hid (fun (h0 : sealE x.sub at_ = 0) => show (sealI x.sub at_).sub.length ≤ maxLen from by have h1 := (sealI_len h0).1; have h2 := length_le_sizes x.sub; have h3 := sizes_enc x.sub; unfold maxLen; omega)
  have CLs := Lib.hid (fun (W : World) (B : Option Addr) (c : Nat) (hi : ItemsV W 0 W.heap.size x.sub B) (h1 : x.sub.length ≤ c) (h2 : c ≤ maxLen) => show Calls Tryd.prog 46 #[.slice B x.sub.length c] W (fun e w' => ∃ A', e = .returned (listV A' x.sub.length x.sub.length) ∧ Hid (ItemV w' 0 w'.heap.size (lst x.sub) (listV A' x.sub.length x.sub.length)) ∧ Below W.heap.size W w') from by
    refine (list_any x.sub B W.heap.size c W hi (Nat.le_refl _) h1 h2 (by have := wides_enc x.sub; omega) (by have := sizes_enc x.sub; omega) (by omega)).mono ?_
    rintro e w' ⟨A', rfl, HL, hb⟩
    exact ⟨A', rfl, Lib.hid (item_list (HL.out.more (Nat.zero_le _) (Nat.le_refl _)) rfl (Nat.le_refl _) (Nat.le_trans h1 h2)), hb⟩)
  have CSm := Lib.hid (fun (W : World) (v u : Value) (hi : ItemV W 0 W.heap.size (lst x.sub) v) (hj : ItemV W 0 W.heap.size (lst x.sub) u) => show Calls Tryd.prog 35 #[v, u] W (fun e w' => e = .returned (.bool true) ∧ Below W.heap.size W w') from by
    have := sameTop_any (lst x.sub) (lst x.sub) v u W.heap.size W hi hj (Nat.le_refl _) (by have h1 : size (lst x.sub) = 1 + sizes x.sub := rfl; have h2 := sizes_enc x.sub; omega) (by have h1 : deep (lst x.sub) = 1 + deeps x.sub := rfl; omega)
    rw [same_self] at this
    exact this)
  have dg : decide (grt x 1 300 < 0) = false := decide_eq_false hgr
  have CWp := Lib.hid (fun (W : World) (h : Below w.heap.size w W) => show Calls Tryd.prog 44 #[p.val] W (fun e w' => ∃ g, e = .returned (.tuple #[listV (some ⟨g, 0, none⟩) (pw p).sub.length (pw p).sub.length, .int .i64 0]) ∧ Hid (ItemV w' 0 w'.heap.size (pw p) (listV (some ⟨g, 0, none⟩) (pw p).sub.length (pw p).sub.length)) ∧ Below W.heap.size W w') from by
    refine (pwrite_yes p hp W (HTW.out W h).1 (HTW.out W h).2 hr).mono ?_
    rintro e w' ⟨v, rfl, HL, hb⟩
    obtain ⟨g, rfl, h1, h2⟩ := HL.out
    have hpl := pw_list hr
    exact ⟨g, rfl, Lib.hid ((Laid.item (w := W) ⟨g, rfl, h1, h2⟩ hpl.1 hpl.2.1).more (Nat.zero_le _) (Nat.le_refl _)), hb⟩)
  have CRp := Lib.hid (fun (W : World) (v : Value) (h : Below w.heap.size w W) (hi : ItemV W 0 W.heap.size (pw p) v) => show Calls Tryd.prog 45 #[v] W (fun e w' => e = .returned (.tuple #[p.val, .int .i64 0]) ∧ Below W.heap.size W w') from by
    have hb := pr_back hr
    have hl := pw_list hr
    have := pread_any (pw p) v W hi (by have := hl.2.2.1; omega) (by have := hl.2.2.2; omega) (HTW.out W h).1 (HTW.out W h).2
    rw [hb.1, hb.2] at this
    exact this)
  have HPE := Lib.hid (prEq_self p)
  generalize (pw p).sub.length = pl at CWp CRp
  generalize pw p = PP at CWp CRp
  have HS1 := Lib.hid hs1
  clear hv hT hS hgr hp hr hgk hge hE hd hbx hdx hsn hqo hqr HTW rk rn_ hs1
  obtain ⟨f, sm, ⟨di, dn, ds, dh, dd⟩, ⟨ri, rn, rs, rh, rd⟩, ⟨⟨ii, inn, iss, ih, idd⟩, t, q⟩, lf⟩ := p
  generalize x.kind = xk at *
  generalize x.num = xn at *
  generalize x.bs.length = xb at *
  go_enter Tryd.func9, Tryd.ntmps9
  go_upto_region 1 with (fail)
  generalize (w.alloc (.cells #[.int .u64 f, .int .i64 sm, .bool di, .int .u64 dn, .int .u64 ds, .string dh, .string dd, .bool ri, .int .u64 rn, .int .u64 rs, .string rh, .string rd, .bool ii, .int .u64 inn, .int .u64 iss, .string ih, .string idd, .int .u64 t, .int .u64 q, .int .u64 lf] 90)).alloc (.cells #[.int .i64 xk, .int .u64 xn, .slice A1 xb c1, .slice A2 x.sub.length c2] 30) = w0 at *
  refine wp_region_lit ?_
  refine wpList_load_row rfl 90 (.tmp 3) rfl w.heap.size rfl 90 _ (0, 0) _ HP0.out Tryd.underlying90 rfl info20 ?_
  refine wpList_plain rfl fun K hK => ?_
  go_simp
  refine (CG6.out w0).mono ?_
  rintro e w1 ⟨b, rfl, hb1⟩
  refine hK _ _ ?_
  clear hK K
  have HB1 := Lib.hid (below_next HB0.out HB0.out.size hb1)
  have HP1 := Lib.hid (HP0.out.next hb1)
  have HX1 := Lib.hid (HX0.out.next hb1)
  clear hb1 CG6 HB0 HP0 HX0
  obtain ⟨⟨x0, x1, x2, x3⟩, -⟩ := cells_item HX1.out
  cases b
  · go_wp2_with fail
    refine (CG3.out w1 HB1.out).mono ?_
    rintro e w1' ⟨rfl, hb⟩
    have HB1' := Lib.hid (below_next HB1.out HB1.out.size hb)
    have HP1' := Lib.hid (HP1.out.next hb)
    have HX1' := Lib.hid (HX1.out.next hb)
    clear hb HB1 HP1 HX1 x0 x1 x2 x3 CG3 HV
    rename World => w1
    have HB1 := HB1'
    have HP1 := HP1'
    have HX1 := HX1'
    clear HB1' HP1' HX1'
    obtain ⟨⟨x0, x1, x2, x3⟩, -⟩ := cells_item HX1.out
    go_upto_region 3 with (fail)
    refine wp_region_lit ?_
    refine wpList_load_row rfl 90 (.tmp 3) rfl w.heap.size rfl 90 _ (0, 0) _ HP1.out Tryd.underlying90 rfl info20 ?_
    refine wpList_plain rfl fun K hK => ?_
    go_simp
    refine (CWp.out w1 HB1.out).mono ?_
    rintro e w2 ⟨gp, rfl, HIp, hb2⟩
    refine hK _ _ ?_
    clear hK K
    have HB2 := Lib.hid (below_next HB1.out HB1.out.size hb2)
    have HP2 := Lib.hid (HP1.out.next hb2)
    have HX2 := Lib.hid (HX1.out.next hb2)
    clear hb2 HB1 HP1 HX1 CWp x0 x1 x2 x3
    have hba : Below w2.heap.size w2 (w2.alloc (.cells #[.int .i64 4, .int .u64 0, .slice none 0 0, .slice (some ⟨gp, 0, none⟩) pl pl] 30)) := (Below.refl _ _).alloc (Nat.le_refl _) _
    have HB3 := Lib.hid (below_next HB2.out HB2.out.size hba)
    have HP3 := Lib.hid (HP2.out.next hba)
    have HX3 := Lib.hid (HX2.out.next hba)
    have HK3 := Lib.hid (Blk.new w2 30 #[.int .i64 4, .int .u64 0, .slice none 0 0, .slice (some ⟨gp, 0, none⟩) pl pl])
    have HRp := Lib.hid (CRp.out (w2.alloc (.cells #[.int .i64 4, .int .u64 0, .slice none 0 0, .slice (some ⟨gp, 0, none⟩) pl pl] 30)) _ HB3.out ((HIp.out.below hba).more (Nat.le_refl _) hba.size))
    clear HB2 HP2 HX2 HIp CRp hba
    go_upto_region 5 with (fail)
    generalize w2.alloc (.cells #[.int .i64 4, .int .u64 0, .slice none 0 0, .slice (some ⟨gp, 0, none⟩) pl pl] 30) = w3 at *
    obtain ⟨⟨z0, z1, z2, z3⟩, -⟩ := cells_item HK3.out
    refine wp_region_lit ?_
    refine wpList_load_row rfl 30 (.tmp 7) rfl w2.heap.size rfl 30 _ (0, 0) _ HK3.out Tryd.underlying30 rfl (by kernel_rfl) ?_
    refine wpList_plain rfl fun K hK => ?_
    go_simp
    refine HRp.out.mono ?_
    rintro e w4 ⟨rfl, hb4⟩
    refine hK _ _ ?_
    clear hK K
    refine wpList_run (w' := w4) (v := .tuple #[.agg #[.int .u64 f, .int .i64 sm, .bool di, .int .u64 dn, .int .u64 ds, .string dh, .string dd, .bool ri, .int .u64 rn, .int .u64 rs, .string rh, .string rd, .bool ii, .int .u64 inn, .int .u64 iss, .string ih, .string idd, .int .u64 t, .int .u64 q, .int .u64 lf], .int .i64 0]) rfl (by rfl) ?_
    refine wpList_run (w' := w4) (v := .agg #[.int .u64 f, .int .i64 sm, .bool di, .int .u64 dn, .int .u64 ds, .string dh, .string dd, .bool ri, .int .u64 rn, .int .u64 rs, .string rh, .string rd, .bool ii, .int .u64 inn, .int .u64 iss, .string ih, .string idd, .int .u64 t, .int .u64 q, .int .u64 lf]) rfl (by rfl) ?_
    refine wpList_run (w' := w4) (v := .int .i64 0) rfl (by rfl) ?_
    refine wpList_run (w' := w4.alloc (.cells zero20 90)) (v := .pointer (some ⟨w4.heap.size, 0, none⟩)) rfl (by kernel_rfl) ?_
    refine wpList_store_row rfl 90 (.tmp 9) (.tmp 37) rfl w4.heap.size #[.int .u64 f, .int .i64 sm, .bool di, .int .u64 dn, .int .u64 ds, .string dh, .string dd, .bool ri, .int .u64 rn, .int .u64 rs, .string rh, .string rd, .bool ii, .int .u64 inn, .int .u64 iss, .string ih, .string idd, .int .u64 t, .int .u64 q, .int .u64 lf] (by rfl) (by rfl) 90 _ (Blk.new w4 _ _) info20 rfl (by first | rfl | simp [Value.oneCell']) ?_
    rw [World.setRow_alloc_new]
    have hba : Below w3.heap.size w3 (w4.alloc (.cells #[.int .u64 f, .int .i64 sm, .bool di, .int .u64 dn, .int .u64 ds, .string dh, .string dd, .bool ri, .int .u64 rn, .int .u64 rs, .string rh, .string rd, .bool ii, .int .u64 inn, .int .u64 iss, .string ih, .string idd, .int .u64 t, .int .u64 q, .int .u64 lf] 90)) := hb4.alloc hb4.size _
    have HB5 := Lib.hid (below_next HB3.out HB3.out.size hba)
    have HP5 := Lib.hid (HP3.out.next hba)
    have HX5 := Lib.hid (HX3.out.next hba)
    have HQ5 := Lib.hid (Blk.new w4 90 #[.int .u64 f, .int .i64 sm, .bool di, .int .u64 dn, .int .u64 ds, .string dh, .string dd, .bool ri, .int .u64 rn, .int .u64 rs, .string rh, .string rd, .bool ii, .int .u64 inn, .int .u64 iss, .string ih, .string idd, .int .u64 t, .int .u64 q, .int .u64 lf])
    clear hb4 hba HB3 HP3 HX3 HK3 HRp z0 z1 z2 z3
    go_upto_region 6 with (fail)
    generalize w4.alloc (.cells #[.int .u64 f, .int .i64 sm, .bool di, .int .u64 dn, .int .u64 ds, .string dh, .string dd, .bool ri, .int .u64 rn, .int .u64 rs, .string rh, .string rd, .bool ii, .int .u64 inn, .int .u64 iss, .string ih, .string idd, .int .u64 t, .int .u64 q, .int .u64 lf] 90) = w5 at *
    refine wp_region_lit ?_
    refine wpList_run (w' := w5) (v := .int .i64 0) rfl (by rfl) ?_
    refine wpList_run (w' := w5) (v := .bool false) rfl (by kernel_rfl) ?_
    refine wpList_run (w' := w5) (v := .bool false) rfl (by rfl) ?_
    refine wpList_step fun K hK => ?_
    rw [if_pos (by rfl)]
    refine wp_load_row 90 (.tmp 9) rfl w4.heap.size rfl 90 _ (0, 0) _ HQ5.out Tryd.underlying90 rfl info20 ?_
    refine hK _ _ ?_
    clear hK K
    refine wpList_step fun K hK => ?_
    rw [if_pos (by rfl)]
    refine wp_load_row 90 (.tmp 3) rfl w.heap.size rfl 90 _ (0, 0) _ HP5.out Tryd.underlying90 rfl info20 ?_
    refine hK _ _ ?_
    clear hK K
    have hpe := HPE.out
    refine wpList_runG (w' := w5) (v := .bool false) (by rfl) (by first | (go_simp; done) | (go_simp; simp only [hpe]; rfl) | (go_simp; trace_state; fail)) ?_
    clear hpe HPE
    go_upto_region 8 with (fail)
    clear HQ5
    obtain ⟨⟨x0, x1, x2, x3⟩, -⟩ := cells_item HX5.out
    generalize prI x = Q at *
    generalize hE : prE x = E at *
    have HEE := Lib.hid hE
    clear hE
    have HQ' := Lib.hid (rfl : Q = Q)
    obtain ⟨f', sm', ⟨di', dn', ds', dh', dd'⟩, ⟨ri', rn', rs', rh', rd'⟩, ⟨⟨ii', inn', iss', ih', idd'⟩, t', q'⟩, lf'⟩ := Q
    refine wp_region_lit ?_
    refine wpList_load_row rfl 30 (.tmp 4) rfl (w.heap.size + 1) rfl 30 _ (0, 0) _ HX5.out Tryd.underlying30 rfl (by kernel_rfl) ?_
    refine wpList_plain rfl fun K hK => ?_
    go_simp
    refine (CRx.out w5 HB5.out).mono ?_
    rintro e w6 ⟨rfl, hb6⟩
    refine hK _ _ ?_
    clear hK K
    refine wpList_run (w' := w6) (v := .tuple #[.agg #[.int .u64 f', .int .i64 sm', .bool di', .int .u64 dn', .int .u64 ds', .string dh', .string dd', .bool ri', .int .u64 rn', .int .u64 rs', .string rh', .string rd', .bool ii', .int .u64 inn', .int .u64 iss', .string ih', .string idd', .int .u64 t', .int .u64 q', .int .u64 lf'], .int .i64 E]) rfl (by rfl) ?_
    refine wpList_run (w' := w6) (v := .agg #[.int .u64 f', .int .i64 sm', .bool di', .int .u64 dn', .int .u64 ds', .string dh', .string dd', .bool ri', .int .u64 rn', .int .u64 rs', .string rh', .string rd', .bool ii', .int .u64 inn', .int .u64 iss', .string ih', .string idd', .int .u64 t', .int .u64 q', .int .u64 lf']) rfl (by rfl) ?_
    refine wpList_run (w' := w6) (v := .int .i64 E) rfl (by rfl) ?_
    refine wpList_run (w' := w6.alloc (.cells zero20 90)) (v := .pointer (some ⟨w6.heap.size, 0, none⟩)) rfl (by kernel_rfl) ?_
    refine wpList_store_row rfl 90 (.tmp 11) (.tmp 49) rfl w6.heap.size #[.int .u64 f', .int .i64 sm', .bool di', .int .u64 dn', .int .u64 ds', .string dh', .string dd', .bool ri', .int .u64 rn', .int .u64 rs', .string rh', .string rd', .bool ii', .int .u64 inn', .int .u64 iss', .string ih', .string idd', .int .u64 t', .int .u64 q', .int .u64 lf'] (by rfl) (by rfl) 90 _ (Blk.new w6 _ _) info20 rfl (by first | rfl | simp [Value.oneCell']) ?_
    rw [World.setRow_alloc_new]
    have hba : Below w5.heap.size w5 (w6.alloc (.cells #[.int .u64 f', .int .i64 sm', .bool di', .int .u64 dn', .int .u64 ds', .string dh', .string dd', .bool ri', .int .u64 rn', .int .u64 rs', .string rh', .string rd', .bool ii', .int .u64 inn', .int .u64 iss', .string ih', .string idd', .int .u64 t', .int .u64 q', .int .u64 lf'] 90)) := hb6.alloc hb6.size _
    have HB7 := Lib.hid (below_next HB5.out HB5.out.size hba)
    have HX7 := Lib.hid (HX5.out.next hba)
    have HQ7 := Lib.hid (Blk.new w6 90 #[.int .u64 f', .int .i64 sm', .bool di', .int .u64 dn', .int .u64 ds', .string dh', .string dd', .bool ri', .int .u64 rn', .int .u64 rs', .string rh', .string rd', .bool ii', .int .u64 inn', .int .u64 iss', .string ih', .string idd', .int .u64 t', .int .u64 q', .int .u64 lf'])
    clear hb6 hba HB5 HX5 CRx x0 x1 x2 x3
    go_upto_region 9 with (fail)
    generalize w6.alloc (.cells #[.int .u64 f', .int .i64 sm', .bool di', .int .u64 dn', .int .u64 ds', .string dh', .string dd', .bool ri', .int .u64 rn', .int .u64 rs', .string rh', .string rd', .bool ii', .int .u64 inn', .int .u64 iss', .string ih', .string idd', .int .u64 t', .int .u64 q', .int .u64 lf'] 90) = w7 at *
    refine wp_region_lit ?_
    refine wpList_load_row rfl 90 (.tmp 11) rfl w6.heap.size rfl 90 _ (0, 0) _ HQ7.out Tryd.underlying90 rfl info20 ?_
    refine wpList_plain rfl fun K hK => ?_
    go_simp
    refine (CWq.out w7 HB7.out).mono ?_
    rintro e w8 ⟨gq, rfl, HIq, hb8⟩
    refine hK _ _ ?_
    clear hK K
    have HB8 := Lib.hid (below_next HB7.out HB7.out.size hb8)
    have HX8 := Lib.hid (HX7.out.next hb8)
    generalize hql : (pw ⟨f', sm', ⟨di', dn', ds', dh', dd'⟩, ⟨ri', rn', rs', rh', rd'⟩, ⟨⟨ii', inn', iss', ih', idd'⟩, t', q'⟩, lf'⟩) = PW at *
    generalize PW.sub.length = ql at *
    clear hql hb8 HB7 HX7 HQ7 CWq
    have hba : Below w8.heap.size w8 (w8.alloc (.cells #[.int .i64 4, .int .u64 0, .slice none 0 0, .slice (some ⟨gq, 0, none⟩) ql ql] 30)) := (Below.refl _ _).alloc (Nat.le_refl _) _
    have HB9 := Lib.hid (below_next HB8.out HB8.out.size hba)
    have HX9 := Lib.hid (HX8.out.next hba)
    have HK9 := Lib.hid (Blk.new w8 30 #[.int .i64 4, .int .u64 0, .slice none 0 0, .slice (some ⟨gq, 0, none⟩) ql ql])
    have HIq9 := Lib.hid ((HIq.out.below hba).more (Nat.le_refl _) hba.size)
    clear HB8 HX8 HIq hba
    go_upto_region 10 with (fail)
    generalize w8.alloc (.cells #[.int .i64 4, .int .u64 0, .slice none 0 0, .slice (some ⟨gq, 0, none⟩) ql ql] 30) = w9 at *
    obtain ⟨⟨x0, x1, x2, x3⟩, -⟩ := cells_item HX9.out
    obtain ⟨⟨z0, z1, z2, z3⟩, -⟩ := cells_item HK9.out
    have HSq := Lib.hid (CSq.out w9 _ HB9.out HIq9.out)
    clear CSq HIq9
    by_cases hE0 : E = 0
    · subst hE0
      have hsm : same PW x = true := by rw [HWAY.out rfl, same_self]
      rw [hsm] at HSq
      clear hsm
      clear HWAY HEE
      go_wp2_with fail
      refine HSq.out.mono ?_
      rintro e w10 ⟨rfl, hb10⟩
      have HB10 := Lib.hid (below_next HB9.out HB9.out.size hb10)
      have HX10 := Lib.hid (HX9.out.next hb10)
      clear hb10 HSq HB9 HX9 HK9 x0 x1 x2 x3 z0 z1 z2 z3
      obtain ⟨⟨x0, x1, x2, x3⟩, -⟩ := cells_item HX10.out
      go_wp2_with fail
      refine (CSe.out w10 HB10.out).mono ?_
      rintro e w11 ⟨v11, rfl, HO, hb11⟩
      have HB11 := Lib.hid (below_next HB10.out HB10.out.size hb11)
      have HX11 := Lib.hid (HX10.out.next hb11)
      have hz11 : w10.heap.size ≤ w11.heap.size := hb11.size
      clear hb11 HB10 HX10 CSe x0 x1 x2 x3
      by_cases hs0 : sealE x.sub at_ = 0
      · rw [hs0]
        obtain ⟨g, rfl, hg1, hg2⟩ := HO.out.1 hs0
        have HIs := Lib.hid ((Laid.item (w := w10) ⟨g, rfl, hg1, hg2⟩ (HSI.out hs0) (HSM.out hs0)).more (lo' := 0) (hi' := w11.heap.size) (Nat.zero_le _) (Nat.le_refl _))
        generalize (sealI x.sub at_).sub.length = sl at *
        have hba : Below w11.heap.size w11 (w11.alloc (.cells #[.int .i64 4, .int .u64 0, .slice none 0 0, .slice (some ⟨g, 0, none⟩) sl sl] 30)) := (Below.refl _ _).alloc (Nat.le_refl _) _
        have HB12 := Lib.hid (below_next HB11.out HB11.out.size hba)
        have HX12 := Lib.hid (HX11.out.next hba)
        have HK12 := Lib.hid (Blk.new w11 30 #[.int .i64 4, .int .u64 0, .slice none 0 0, .slice (some ⟨g, 0, none⟩) sl sl])
        have HOx := Lib.hid (COp.out _ _ HB12.out hs0 ((HIs.out.below hba).more (Nat.le_refl _) hba.size))
        have hos := HOS.out hs0
        clear hg1 hg2 HO HIs HB11 HX11 HSI HSM HSC HOS COp hba
        go_upto_region 15 with (fail)
        generalize w11.alloc (.cells #[.int .i64 4, .int .u64 0, .slice none 0 0, .slice (some ⟨g, 0, none⟩) sl sl] 30) = w12 at *
        obtain ⟨⟨z0, z1, z2, z3⟩, -⟩ := cells_item HK12.out
        go_wp2_with fail
        refine HOx.out.mono ?_
        rintro e w13 ⟨⟨AO, rfl, HIo⟩, hb13⟩
        rw [hos.1, hos.2]
        have hio := HIo.out
        rw [hos.2] at hio
        have HIo' := Lib.hid (hio.more (lo' := 0) (hi' := w13.heap.size) (Nat.zero_le _) (Nat.le_refl _))
        have HB13 := Lib.hid (below_next HB12.out HB12.out.size hb13)
        have HX13 := Lib.hid (HX12.out.next hb13)
        clear hb13 HIo hio hos HOx HB12 HX12 HK12 z0 z1 z2 z3 hs0
        have hlm : x.sub.length ≤ maxLen := Nat.le_trans HS1.out hs2
        have HAl := Lib.hid (CAl.out w13.drew (HB13.out.drew))
        have CL1 := Lib.hid (fun (W : World) (h : Below w13.heap.size w13 W) => CLs.out W AO x.sub.length ((HIo'.out.below h).more (Nat.le_refl _) h.size) (Nat.le_refl _) hlm)
        have CL2 := Lib.hid (fun (W : World) (h : Below w13.heap.size w13 W) => CLs.out W A2 c2 (HI.out W (below_next HB13.out HB13.out.size h)) HS1.out hs2)
        have KX := Lib.hid (fun (W : World) (h : Below w13.heap.size w13 W) => (cells4 (HX13.out.next h)).2.2.2)
        have HBd := Lib.hid ((Below.refl w13.heap.size w13).drew)
        clear CLs HI HIo' CAl
        go_upto_region 16 with (fail)
        go_region_held3 (fun w' => w'.cell? ⟨w.heap.size + 1, 3, none⟩ = some (.slice A2 x.sub.length c2))
          (first | with_reducible exact KX.out _ HBd.out | with_reducible exact KX.out _ HBA.out | with_reducible exact KX.out _ HBB.out | with_reducible exact KX.out _ HBC.out | with_reducible exact KX.out _ HBD.out | fail)
          (first | (go_at_call 37; (with_reducible refine HAl.out.mono ?_); rintro e wA ⟨rfl, hbA⟩; have HBA := Lib.hid (below_next HBd.out HBd.out.size hbA); clear hbA) | (go_at_call 46; (with_reducible refine (CL1.out _ HBA.out).mono ?_); rintro e wB ⟨AL1, rfl, HL1, hbB⟩; have HBB := Lib.hid (below_next HBA.out HBA.out.size hbB); clear hbB) | (go_at_call 46; (with_reducible refine (CL2.out _ HBB.out).mono ?_); rintro e wC ⟨AL2, rfl, HL2, hbC⟩; have HBC := Lib.hid (below_next HBB.out HBB.out.size hbC); have HL1C := Lib.hid ((HL1.out.below hbC).more (Nat.le_refl _) hbC.size); clear hbC) | (go_at_call 35; (with_reducible refine (CSm.out _ _ _ HL1C.out HL2.out).mono ?_); rintro e wD ⟨rfl, hbD⟩; have HBD := Lib.hid (below_next HBC.out HBC.out.size hbD); clear hbD) | fail)
        have HBE := Lib.hid (below_next HB13.out HB13.out.size HBD.out)
        clear HAl CL1 CL2 KX HBd HBA HBB HBC HBD CSm
        go_wp2_with fail
        go_ret
        exact ⟨rfl, HBE.out⟩
      · obtain rfl := HO.out.2 hs0
        have HB12 := Lib.hid (HB11.out.alloc HB11.out.size (.cells #[.int .i64 0, .int .u64 0, .slice none 0 0, .slice none 0 0] 30))
        have HA12 := Lib.hid (CAl.out _ HB12.out)
        rcases HSC.out with h0 | h0 | h0
        · exact absurd h0 hs0
        all_goals
          rw [h0]
          clear HO HB11 HX11 HSI HSM HSC HOS COp CAl hs0 h0
          go_wp2_with fail
          refine HA12.out.mono ?_
          rintro e w13 ⟨rfl, hb⟩
          have HBz := Lib.hid (below_next HB12.out HB12.out.size hb)
          clear hb
          go_wp2_with fail
          go_ret
          exact ⟨rfl, HBz.out⟩
    · have e1 : (E == 0) = false := by simpa using hE0
      have HB10 := HB9
      have HX10 := HX9
      have w10e : w9 = w9 := rfl
      clear HWAY HSq HK9 z0 z1 z2 z3 hE0
      go_wp2_with fail
      refine (CSe.out w9 HB10.out).mono ?_
      rintro e w11 ⟨v11, rfl, HO, hb11⟩
      have HB11 := Lib.hid (below_next HB10.out HB10.out.size hb11)
      have HX11 := Lib.hid (HX10.out.next hb11)
      have hz11 : w9.heap.size ≤ w11.heap.size := hb11.size
      clear hb11 HB10 HX10 CSe x0 x1 x2 x3
      by_cases hs0 : sealE x.sub at_ = 0
      · rw [hs0]
        obtain ⟨g, rfl, hg1, hg2⟩ := HO.out.1 hs0
        have HIs := Lib.hid ((Laid.item (w := w9) ⟨g, rfl, hg1, hg2⟩ (HSI.out hs0) (HSM.out hs0)).more (lo' := 0) (hi' := w11.heap.size) (Nat.zero_le _) (Nat.le_refl _))
        generalize (sealI x.sub at_).sub.length = sl at *
        have hba : Below w11.heap.size w11 (w11.alloc (.cells #[.int .i64 4, .int .u64 0, .slice none 0 0, .slice (some ⟨g, 0, none⟩) sl sl] 30)) := (Below.refl _ _).alloc (Nat.le_refl _) _
        have HB12 := Lib.hid (below_next HB11.out HB11.out.size hba)
        have HX12 := Lib.hid (HX11.out.next hba)
        have HK12 := Lib.hid (Blk.new w11 30 #[.int .i64 4, .int .u64 0, .slice none 0 0, .slice (some ⟨g, 0, none⟩) sl sl])
        have HOx := Lib.hid (COp.out _ _ HB12.out hs0 ((HIs.out.below hba).more (Nat.le_refl _) hba.size))
        have hos := HOS.out hs0
        clear hg1 hg2 HO HIs HB11 HX11 HSI HSM HSC HOS COp hba
        go_upto_region 15 with (fail)
        generalize w11.alloc (.cells #[.int .i64 4, .int .u64 0, .slice none 0 0, .slice (some ⟨g, 0, none⟩) sl sl] 30) = w12 at *
        obtain ⟨⟨z0, z1, z2, z3⟩, -⟩ := cells_item HK12.out
        go_wp2_with fail
        refine HOx.out.mono ?_
        rintro e w13 ⟨⟨AO, rfl, HIo⟩, hb13⟩
        rw [hos.1, hos.2]
        have hio := HIo.out
        rw [hos.2] at hio
        have HIo' := Lib.hid (hio.more (lo' := 0) (hi' := w13.heap.size) (Nat.zero_le _) (Nat.le_refl _))
        have HB13 := Lib.hid (below_next HB12.out HB12.out.size hb13)
        have HX13 := Lib.hid (HX12.out.next hb13)
        clear hb13 HIo hio hos HOx HB12 HX12 HK12 z0 z1 z2 z3 hs0
        have hlm : x.sub.length ≤ maxLen := Nat.le_trans HS1.out hs2
        have HAl := Lib.hid (CAl.out w13.drew (HB13.out.drew))
        have CL1 := Lib.hid (fun (W : World) (h : Below w13.heap.size w13 W) => CLs.out W AO x.sub.length ((HIo'.out.below h).more (Nat.le_refl _) h.size) (Nat.le_refl _) hlm)
        have CL2 := Lib.hid (fun (W : World) (h : Below w13.heap.size w13 W) => CLs.out W A2 c2 (HI.out W (below_next HB13.out HB13.out.size h)) HS1.out hs2)
        have KX := Lib.hid (fun (W : World) (h : Below w13.heap.size w13 W) => (cells4 (HX13.out.next h)).2.2.2)
        have HBd := Lib.hid ((Below.refl w13.heap.size w13).drew)
        clear CLs HI HIo' CAl
        go_upto_region 16 with (fail)
        go_region_held3 (fun w' => w'.cell? ⟨w.heap.size + 1, 3, none⟩ = some (.slice A2 x.sub.length c2))
          (first | with_reducible exact KX.out _ HBd.out | with_reducible exact KX.out _ HBA.out | with_reducible exact KX.out _ HBB.out | with_reducible exact KX.out _ HBC.out | with_reducible exact KX.out _ HBD.out | fail)
          (first | (go_at_call 37; (with_reducible refine HAl.out.mono ?_); rintro e wA ⟨rfl, hbA⟩; have HBA := Lib.hid (below_next HBd.out HBd.out.size hbA); clear hbA) | (go_at_call 46; (with_reducible refine (CL1.out _ HBA.out).mono ?_); rintro e wB ⟨AL1, rfl, HL1, hbB⟩; have HBB := Lib.hid (below_next HBA.out HBA.out.size hbB); clear hbB) | (go_at_call 46; (with_reducible refine (CL2.out _ HBB.out).mono ?_); rintro e wC ⟨AL2, rfl, HL2, hbC⟩; have HBC := Lib.hid (below_next HBB.out HBB.out.size hbC); have HL1C := Lib.hid ((HL1.out.below hbC).more (Nat.le_refl _) hbC.size); clear hbC) | (go_at_call 35; (with_reducible refine (CSm.out _ _ _ HL1C.out HL2.out).mono ?_); rintro e wD ⟨rfl, hbD⟩; have HBD := Lib.hid (below_next HBC.out HBC.out.size hbD); clear hbD) | fail)
        have HBE := Lib.hid (below_next HB13.out HB13.out.size HBD.out)
        clear HAl CL1 CL2 KX HBd HBA HBB HBC HBD CSm
        go_wp2_with fail
        go_ret
        exact ⟨rfl, HBE.out⟩
      · obtain rfl := HO.out.2 hs0
        have HB12 := Lib.hid (HB11.out.alloc HB11.out.size (.cells #[.int .i64 0, .int .u64 0, .slice none 0 0, .slice none 0 0] 30))
        have HA12 := Lib.hid (CAl.out _ HB12.out)
        rcases HSC.out with h0 | h0 | h0
        · exact absurd h0 hs0
        all_goals
          rw [h0]
          clear HO HB11 HX11 HSI HSM HSC HOS COp CAl hs0 h0
          go_wp2_with fail
          refine HA12.out.mono ?_
          rintro e w13 ⟨rfl, hb⟩
          have HBz := Lib.hid (below_next HB12.out HB12.out.size hb)
          clear hb
          go_wp2_with fail
          go_ret
          exact ⟨rfl, HBz.out⟩
  · go_wp2_with fail
    refine (CAl.out w1 HB1.out).mono ?_
    rintro e w2 ⟨rfl, hb⟩
    have HBz := Lib.hid (below_next HB1.out HB1.out.size hb)
    clear hb
    go_wp2_with fail
    go_ret
    exact ⟨rfl, HBz.out⟩
end Go.Proofs.YtbgcbcnidjlhnaaDoor.PrimaryBack
/- The statement PrimaryBack: the walk, whole. -/
namespace Go.Proofs.YtbgcbcnidjlhnaaDoor.PrimaryBack
open Go.RowKit Wd Cb Eid EncB CbCopy CbList CbRight CbWrite CbLays CbSame Prim Great

theorem walk (p : Prm) (x : Itm) (xv : Value) (at_ : Int) (w : World) (hp : p.ok) (hv : ItemV w 0 w.heap.size x xv) (_ha : -9223372036854775808 ≤ at_ ∧ at_ ≤ 9223372036854775807) (hT : Tabs w ∧ Sz w) :
    Calls Tryd.prog 9 #[p.val, xv, .int .i64 at_] w fun e w' => e = .returned (.bool true) ∧ Below w.heap.size w w' := by
  by_cases hgr : grt x 1 300 < 0
  · exact walk_great p hp x xv at_ w hv hT.1 hT.2 hgr
  · cases hr : pright p
    · exact walk_no p hp x xv at_ w hv hT.1 hT.2 hgr hr
    · exact walk_yes p hp x xv at_ w hv hT.1 hT.2 hgr hr
end Go.Proofs.YtbgcbcnidjlhnaaDoor.PrimaryBack
