/- Texts of my own, laid together: PrimRd, PrimRe, PrimRo. -/
import Derived.Test.YtbgcbcnidjlhnaaDoorPrimOk
import Derived.Test.YtbgcbcnidjlhnaaDoorZs14
import Derived.Laws.ResultCell
import Derived.Deep.WholeRow
/- The contract of Read (layer 6). -/
namespace Go.Proofs.YtbgcbcnidjlhnaaDoor.Prim
open Go.RowKit Wd Cb Eid EncB CbCopy CbList CbRight CbWrite CbLays CbSame

theorem pwrite_any (p : Prm) (hp : p.ok) (w : World) (hT : Tabs w) (hS : Sz w) : Calls Tryd.prog 44 #[p.val] w fun e w' => ∃ v, e = .returned (.tuple #[v, .int .i64 (if pright p then 0 else 3)]) ∧ Hid ((pright p = true → Laid w w' (pw p) v) ∧ (pright p = false → v = zeroV)) ∧ Below w.heap.size w w' := by
  cases hr : pright p
  · refine (pwrite_no p hp w hr).mono ?_
    rintro e w' ⟨rfl, hb⟩
    exact ⟨_, rfl, Lib.hid ⟨fun h => (by cases h), fun _ => rfl⟩, hb⟩
  · refine (pwrite_yes p hp w hT hS hr).mono ?_
    rintro e w' ⟨v, rfl, hl, hb⟩
    exact ⟨v, rfl, Lib.hid ⟨fun _ => hl.out, fun h => (by cases h)⟩, hb⟩
theorem pw_list {p : Prm} (h : pright p = true) : pw p = lst (pw p).sub ∧ (pw p).sub.length ≤ maxLen ∧ (enc (pw p)).length ≤ 10000 ∧ deep (pw p) ≤ 10 := by
  obtain ⟨h1, h2⟩ := pseal h
  have h3 := sealI_list h1
  obtain ⟨a, b, c, d⟩ := sealI_len h1
  obtain ⟨e, f, g, i⟩ := pitems_small h
  rw [h2] at h3 a b c d
  have j : (pitems p).length = 8 := rfl
  exact ⟨h3, by unfold maxLen; omega, by omega, by omega⟩
abbrev zero20 : Array Value := #[.int .u64 0, .int .i64 0, .bool false, .int .u64 0, .int .u64 0, .string ⟨#[]⟩, .string ⟨#[]⟩, .bool false, .int .u64 0, .int .u64 0, .string ⟨#[]⟩, .string ⟨#[]⟩, .bool false, .int .u64 0, .int .u64 0, .string ⟨#[]⟩, .string ⟨#[]⟩, .int .u64 0, .int .u64 0, .int .u64 0]
theorem wpList_run {P : Program} {ops : Array Oper} {rest : List Oper} {o : Oper} {a : Act} {w w' : World} {Q : Exit → Act → World → Prop} {v : Value} (hgd : o.guard = none) (hrun : (execOp a.eval o).run P w = .ok (.value v) w') (h : wpList P ops Q rest (a.put o.dst v) w') : wpList P ops Q (o :: rest) a w :=
  wpList_plain hgd fun K hK => by
    unfold Oper.wp
    rw [hrun, Oper.upon_value]
    exact hK _ _ h
theorem results_row_tmp {P : Program} {fn : Func} {p u : Tmp} {ty : TypeId} (h : fn.results = #[.cell p ty, .tmp u]) (tmps : Array Value) (w : World) (g : Nat) (t : TypeId) (cs : Array Value) (fr : Nat × Nat) (d : TypeDesc)
    (hp : tmps.getD p undef = .pointer (some ⟨g, 0, none⟩)) (hg : w.heap[g]? = some (.cells cs t fr)) (hu : P.underlying ty = some d) (hd : (match d with | .struct _ | .array _ _ => true | _ => false) = true) (hi : (P.info? ty).map (·.size) = some cs.size) :
    (results fn tmps).run P w = .ok (.tuple #[.agg cs, tmps.getD u undef]) w := by
  have hp' : tmps[p]?.getD undef = .pointer (some ⟨g, 0, none⟩) := by simpa using hp
  rw [Go.results_cell_tmp h]
  simp [hp', asAddr, Result.andThen, run_loadVar_row w g t ty cs fr d hg hu hd hi]
end Go.Proofs.YtbgcbcnidjlhnaaDoor.Prim
/- Read of what cannot be opened. -/
namespace Go.Proofs.YtbgcbcnidjlhnaaDoor.Prim
open Go.RowKit Wd Cb Eid EncB CbCopy CbList CbRight CbWrite CbLays CbSame

set_option maxRecDepth 100000 in
set_option maxHeartbeats 8000000 in
theorem pread_err (x : Itm) (v : Value) (w : World) (hv : ItemV w 0 w.heap.size x v) (hE : (enc x).length ≤ 900000000) (hd : deep x ≤ 50000) (hT : Tabs w) (hS : Sz w) (ho : openE x 2 ≠ 0) :
    Calls Tryd.prog 45 #[v] w fun e w' => e = .returned (.tuple #[(prI x).val, .int .i64 (prE x)]) ∧ Below w.heap.size w w' := by
  obtain ⟨A1, c1, A2, c2, rfl, -⟩ := hv.open_
  have HB0 := Lib.hid (((Below.refl w.heap.size w).alloc (Nat.le_refl _) (.cells #[.int .i64 x.kind, .int .u64 x.num, .slice A1 x.bs.length c1, .slice A2 x.sub.length c2] 30)).alloc (by simp) (.cells #[.int .u64 0, .int .i64 0, .bool false, .int .u64 0, .int .u64 0, .string ⟨#[]⟩, .string ⟨#[]⟩, .bool false, .int .u64 0, .int .u64 0, .string ⟨#[]⟩, .string ⟨#[]⟩, .bool false, .int .u64 0, .int .u64 0, .string ⟨#[]⟩, .string ⟨#[]⟩, .int .u64 0, .int .u64 0, .int .u64 0] 90))
  have HX0 := Lib.hid ((Blk.new w 30 #[.int .i64 x.kind, .int .u64 x.num, .slice A1 x.bs.length c1, .slice A2 x.sub.length c2]).alloc (.cells #[.int .u64 0, .int .i64 0, .bool false, .int .u64 0, .int .u64 0, .string ⟨#[]⟩, .string ⟨#[]⟩, .bool false, .int .u64 0, .int .u64 0, .string ⟨#[]⟩, .string ⟨#[]⟩, .bool false, .int .u64 0, .int .u64 0, .string ⟨#[]⟩, .string ⟨#[]⟩, .int .u64 0, .int .u64 0, .int .u64 0] 90))
  have HP0 := Lib.hid (blk_new1 w (.cells #[.int .i64 x.kind, .int .u64 x.num, .slice A1 x.bs.length c1, .slice A2 x.sub.length c2] 30) 90 #[.int .u64 0, .int .i64 0, .bool false, .int .u64 0, .int .u64 0, .string ⟨#[]⟩, .string ⟨#[]⟩, .bool false, .int .u64 0, .int .u64 0, .string ⟨#[]⟩, .string ⟨#[]⟩, .bool false, .int .u64 0, .int .u64 0, .string ⟨#[]⟩, .string ⟨#[]⟩, .int .u64 0, .int .u64 0, .int .u64 0])
  have HV := Lib.hid (fun (W : World) (h : Below w.heap.size w W) => (hv.below h).more (Nat.le_refl _) h.size)
  have HTW := Lib.hid (fun (W : World) (h : Below w.heap.size w W) => And.intro (hT.below h (Nat.le_refl _)) (hS.below h (Nat.le_refl _)))
  have CO := Lib.hid (fun (W : World) (h : Below w.heap.size w W) => open_any x _ 2 W (HV.out W h) hE hd (HTW.out W h).1 (HTW.out W h).2)
  have hpE : prE x = openE x 2 := by unfold prE; rw [if_neg ho]
  have hpI : prI x = zeroPrm := by unfold prI; rw [if_neg (by rw [hpE]; exact ho)]
  have HPE := Lib.hid hpE
  have HPI := Lib.hid hpI
  have HO : Hid (openE x 2 = 3 ∨ openE x 2 = 10) := Lib.hid (by have := prE_cases x; omega)
  generalize x.kind = xk at *
  generalize x.num = xn at *
  generalize x.bs.length = xb at *
  generalize x.sub.length = xs at *
  clear hv hE hd hT hS hpE hpI ho
  go_enter Tryd.func45, Tryd.ntmps45
  go_upto_region 1 with (fail)
  generalize (w.alloc (.cells #[.int .i64 xk, .int .u64 xn, .slice A1 xb c1, .slice A2 xs c2] 30)).alloc (.cells #[.int .u64 0, .int .i64 0, .bool false, .int .u64 0, .int .u64 0, .string ⟨#[]⟩, .string ⟨#[]⟩, .bool false, .int .u64 0, .int .u64 0, .string ⟨#[]⟩, .string ⟨#[]⟩, .bool false, .int .u64 0, .int .u64 0, .string ⟨#[]⟩, .string ⟨#[]⟩, .int .u64 0, .int .u64 0, .int .u64 0] 90) = w0 at *
  obtain ⟨⟨x0, x1, x2, x3⟩, y0, y1, y2, y3⟩ := cells_item HX0.out
  go_wp2_with fail
  refine (CO.out _ HB0.out).mono ?_
  rintro e w1 ⟨⟨A, rfl, HI⟩, hb1⟩
  have HB1 := Lib.hid (below_next HB0.out HB0.out.size hb1)
  have HP1 := Lib.hid (HP0.out.next hb1)
  clear hb1 x0 x1 x2 x3 y0 y1 y2 y3 HB0 HX0 HP0 CO HV HTW HI
  generalize (openL x 2).length = ol at *
  rcases HO.out with h3 | h3
  · rw [h3]
    have HPE' := Lib.hid (HPE.out.trans h3)
    clear h3 HO HPE
    go_upto_region 3 with (fail)
    refine wp_region_lit ?_
    refine wpList_run (w' := w1) (v := .agg zero20) rfl (by kernel_rfl) ?_
    refine wpList_run (w' := w1) (v := .int .i64 3) rfl (by rfl) ?_
    refine wpList_store_row rfl 90 (.tmp 2) (.tmp 16) rfl (w.heap.size + 1) zero20 (by rfl) (by rfl) 90 _ HP1.out info20 rfl (by first | rfl | simp [Value.oneCell']) ?_
    have HK9 := Lib.hid (blk_setRow HP1.out zero20)
    have HB9 := Lib.hid (below_setRow HB1.out (Nat.le_succ _) zero20)
    generalize w1.setRow (w.heap.size + 1) zero20 = W9 at *
    go_wp2_with fail
    exact bodyPost_ret (results_row_tmp rfl _ _ (w.heap.size + 1) _ _ (0, 0) _ rfl HK9.out Tryd.underlying90 rfl info20) rfl ⟨by rw [HPE'.out, HPI.out]; rfl, HB9.out⟩
  · rw [h3]
    have HPE' := Lib.hid (HPE.out.trans h3)
    clear h3 HO HPE
    go_upto_region 3 with (fail)
    refine wp_region_lit ?_
    refine wpList_run (w' := w1) (v := .agg zero20) rfl (by kernel_rfl) ?_
    refine wpList_run (w' := w1) (v := .int .i64 10) rfl (by rfl) ?_
    refine wpList_store_row rfl 90 (.tmp 2) (.tmp 16) rfl (w.heap.size + 1) zero20 (by rfl) (by rfl) 90 _ HP1.out info20 rfl (by first | rfl | simp [Value.oneCell']) ?_
    have HK9 := Lib.hid (blk_setRow HP1.out zero20)
    have HB9 := Lib.hid (below_setRow HB1.out (Nat.le_succ _) zero20)
    generalize w1.setRow (w.heap.size + 1) zero20 = W9 at *
    go_wp2_with fail
    exact bodyPost_ret (results_row_tmp rfl _ _ (w.heap.size + 1) _ _ (0, 0) _ rfl HK9.out Tryd.underlying90 rfl info20) rfl ⟨by rw [HPE'.out, HPI.out]; rfl, HB9.out⟩
end Go.Proofs.YtbgcbcnidjlhnaaDoor.Prim
/- Read of what is opened. -/
namespace Go.Proofs.YtbgcbcnidjlhnaaDoor.Prim
open Go.RowKit Wd Cb Eid EncB CbCopy CbList CbRight CbWrite CbLays CbSame

set_option maxRecDepth 100000 in
set_option maxHeartbeats 8000000 in
theorem pread_ok (x : Itm) (v : Value) (w : World) (hv : ItemV w 0 w.heap.size x v) (hE : (enc x).length ≤ 900000000) (hd : deep x ≤ 50000) (hT : Tabs w) (hS : Sz w) (ho : openE x 2 = 0) :
    Calls Tryd.prog 45 #[v] w fun e w' => e = .returned (.tuple #[(prI x).val, .int .i64 (prE x)]) ∧ Below w.heap.size w w' := by
  obtain ⟨A1, c1, A2, c2, rfl, -⟩ := hv.open_
  have HB0 := Lib.hid (((Below.refl w.heap.size w).alloc (Nat.le_refl _) (.cells #[.int .i64 x.kind, .int .u64 x.num, .slice A1 x.bs.length c1, .slice A2 x.sub.length c2] 30)).alloc (by simp) (.cells #[.int .u64 0, .int .i64 0, .bool false, .int .u64 0, .int .u64 0, .string ⟨#[]⟩, .string ⟨#[]⟩, .bool false, .int .u64 0, .int .u64 0, .string ⟨#[]⟩, .string ⟨#[]⟩, .bool false, .int .u64 0, .int .u64 0, .string ⟨#[]⟩, .string ⟨#[]⟩, .int .u64 0, .int .u64 0, .int .u64 0] 90))
  have HX0 := Lib.hid ((Blk.new w 30 #[.int .i64 x.kind, .int .u64 x.num, .slice A1 x.bs.length c1, .slice A2 x.sub.length c2]).alloc (.cells #[.int .u64 0, .int .i64 0, .bool false, .int .u64 0, .int .u64 0, .string ⟨#[]⟩, .string ⟨#[]⟩, .bool false, .int .u64 0, .int .u64 0, .string ⟨#[]⟩, .string ⟨#[]⟩, .bool false, .int .u64 0, .int .u64 0, .string ⟨#[]⟩, .string ⟨#[]⟩, .int .u64 0, .int .u64 0, .int .u64 0] 90))
  have HP0 := Lib.hid (blk_new1 w (.cells #[.int .i64 x.kind, .int .u64 x.num, .slice A1 x.bs.length c1, .slice A2 x.sub.length c2] 30) 90 #[.int .u64 0, .int .i64 0, .bool false, .int .u64 0, .int .u64 0, .string ⟨#[]⟩, .string ⟨#[]⟩, .bool false, .int .u64 0, .int .u64 0, .string ⟨#[]⟩, .string ⟨#[]⟩, .bool false, .int .u64 0, .int .u64 0, .string ⟨#[]⟩, .string ⟨#[]⟩, .int .u64 0, .int .u64 0, .int .u64 0])
  have HV := Lib.hid (fun (W : World) (h : Below w.heap.size w W) => (hv.below h).more (Nat.le_refl _) h.size)
  have HTW := Lib.hid (fun (W : World) (h : Below w.heap.size w W) => And.intro (hT.below h (Nat.le_refl _)) (hS.below h (Nat.le_refl _)))
  have CO := Lib.hid (fun (W : World) (h : Below w.heap.size w W) => open_any x _ 2 W (HV.out W h) hE hd (HTW.out W h).1 (HTW.out W h).2)
  have hx := sane_of hv
  have hle := openL_le x 2
  have htw := open_two ho
  have hls := openL_sane hx 2
  have hgo := pguess_ok (openL x 2) hls (by omega) htw
  have hpE : prE x = if pright (pguess (openL x 2)) && same (pw (pguess (openL x 2))) x then 0 else 3 := by unfold prE; rw [if_pos ho]
  have hpI : prI x = if prE x = 0 then pguess (openL x 2) else zeroPrm := rfl
  have CG := Lib.hid (fun (W : World) (A : Option Addr) (h : ItemsV W 0 W.heap.size (openL x 2) A) (hm : (openL x 2).length ≤ maxLen) => guess_any (openL x 2) A (openL x 2).length W h (Nat.le_refl _) hm (by omega) (by omega) htw)
  have hlm : (openL x 2).length ≤ maxLen := by have h1 := length_le_sizes (openL x 2); have h2 := sizes_enc (openL x 2); unfold maxLen; omega
  have HLM := Lib.hid hlm
  generalize hG : pguess (openL x 2) = G at *
  have CW := Lib.hid (fun (W : World) (h : Below w.heap.size w W) => pwrite_any G hgo W (HTW.out W h).1 (HTW.out W h).2)
  have HPW := Lib.hid (fun h => pw_list (p := G) h)
  have CSm := Lib.hid (fun (W : World) (u : Value) (h : Below w.heap.size w W) (hr : pright G = true) (hu : ItemV W 0 W.heap.size (pw G) u) => sameTop_any (pw G) x u _ W.heap.size W hu (HV.out W h) (Nat.le_refl _) (by have h1 := size_enc (pw G); have h2 := (pw_list hr).2.2.1; omega) (by have h2 := (pw_list hr).2.2.2; omega))
  have HPE := Lib.hid hpE
  have HPI := Lib.hid hpI
  have HOE := Lib.hid ho
  generalize x.kind = xk at *
  generalize x.num = xn at *
  generalize x.bs.length = xb at *
  generalize x.sub.length = xs at *
  clear hv hE hd hT hS hpE hpI hx hle htw hls hgo hlm hG
  generalize pright G = pr at *
  generalize pw G = PW at *
  go_enter Tryd.func45, Tryd.ntmps45
  go_upto_region 1 with (fail)
  generalize (w.alloc (.cells #[.int .i64 xk, .int .u64 xn, .slice A1 xb c1, .slice A2 xs c2] 30)).alloc (.cells #[.int .u64 0, .int .i64 0, .bool false, .int .u64 0, .int .u64 0, .string ⟨#[]⟩, .string ⟨#[]⟩, .bool false, .int .u64 0, .int .u64 0, .string ⟨#[]⟩, .string ⟨#[]⟩, .bool false, .int .u64 0, .int .u64 0, .string ⟨#[]⟩, .string ⟨#[]⟩, .int .u64 0, .int .u64 0, .int .u64 0] 90) = w0 at *
  obtain ⟨⟨x0, x1, x2, x3⟩, y0, y1, y2, y3⟩ := cells_item HX0.out
  go_wp2_with fail
  refine (CO.out _ HB0.out).mono ?_
  rintro e w1 ⟨⟨A, rfl, HI⟩, hb1⟩
  have HB1 := Lib.hid (below_next HB0.out HB0.out.size hb1)
  have HP1 := Lib.hid (HP0.out.next hb1)
  have HX1 := Lib.hid (HX0.out.next hb1)
  have HIg := Lib.hid (CG.out w1 A (HI.out.more (Nat.zero_le _) (Nat.le_refl _)) HLM.out)
  clear hb1 x0 x1 x2 x3 y0 y1 y2 y3 HB0 HX0 HP0 CO HV HTW HI CG HLM
  generalize (openL x 2).length = ol at *
  rw [HOE.out]
  obtain ⟨f, sm, ⟨di, dn, ds, dh, dd⟩, ⟨ri, rn, rs, rh, rd⟩, ⟨⟨ii, inn, iss, ih, idd⟩, t, q⟩, lf⟩ := G
  go_upto_region 4 with (fail)
  refine wp_region_lit ?_
  refine wpList_run (w' := w1) (v := .slice A ol ol) rfl (by rfl) ?_
  refine wpList_plain rfl fun K hK => ?_
  go_simp
  refine HIg.out.mono ?_
  rintro e w2 ⟨rfl, hb2⟩
  refine hK _ _ ?_
  clear hK K
  have HB2 := Lib.hid (below_next HB1.out HB1.out.size hb2)
  have HP2 := Lib.hid (HP1.out.next hb2)
  have HX2 := Lib.hid (HX1.out.next hb2)
  clear hb2 HIg HB1 HP1 HX1
  refine wpList_run (w' := w2.alloc (.cells zero20 90)) (v := .pointer (some ⟨w2.heap.size, 0, none⟩)) rfl (by kernel_rfl) ?_
  refine wpList_store_row rfl 90 (.tmp 6) (.tmp 19) rfl w2.heap.size #[.int .u64 f, .int .i64 sm, .bool di, .int .u64 dn, .int .u64 ds, .string dh, .string dd, .bool ri, .int .u64 rn, .int .u64 rs, .string rh, .string rd, .bool ii, .int .u64 inn, .int .u64 iss, .string ih, .string idd, .int .u64 t, .int .u64 q, .int .u64 lf] (by rfl) (by rfl) 90 _ (Blk.new w2 _ _) info20 rfl (by first | rfl | simp [Value.oneCell']) ?_
  rw [World.setRow_alloc_new]
  have HB3 := Lib.hid (HB2.out.alloc HB2.out.size (.cells #[.int .u64 f, .int .i64 sm, .bool di, .int .u64 dn, .int .u64 ds, .string dh, .string dd, .bool ri, .int .u64 rn, .int .u64 rs, .string rh, .string rd, .bool ii, .int .u64 inn, .int .u64 iss, .string ih, .string idd, .int .u64 t, .int .u64 q, .int .u64 lf] 90))
  have HP3 := Lib.hid (HP2.out.alloc (.cells #[.int .u64 f, .int .i64 sm, .bool di, .int .u64 dn, .int .u64 ds, .string dh, .string dd, .bool ri, .int .u64 rn, .int .u64 rs, .string rh, .string rd, .bool ii, .int .u64 inn, .int .u64 iss, .string ih, .string idd, .int .u64 t, .int .u64 q, .int .u64 lf] 90))
  have HX3 := Lib.hid (HX2.out.alloc (.cells #[.int .u64 f, .int .i64 sm, .bool di, .int .u64 dn, .int .u64 ds, .string dh, .string dd, .bool ri, .int .u64 rn, .int .u64 rs, .string rh, .string rd, .bool ii, .int .u64 inn, .int .u64 iss, .string ih, .string idd, .int .u64 t, .int .u64 q, .int .u64 lf] 90))
  have HG3 := Lib.hid (Blk.new w2 90 #[.int .u64 f, .int .i64 sm, .bool di, .int .u64 dn, .int .u64 ds, .string dh, .string dd, .bool ri, .int .u64 rn, .int .u64 rs, .string rh, .string rd, .bool ii, .int .u64 inn, .int .u64 iss, .string ih, .string idd, .int .u64 t, .int .u64 q, .int .u64 lf])
  have hz2 : w.heap.size + 1 < w2.heap.size := HP2.out.lt
  clear HB2 HP2 HX2
  generalize w2.alloc (.cells #[.int .u64 f, .int .i64 sm, .bool di, .int .u64 dn, .int .u64 ds, .string dh, .string dd, .bool ri, .int .u64 rn, .int .u64 rs, .string rh, .string rd, .bool ii, .int .u64 inn, .int .u64 iss, .string ih, .string idd, .int .u64 t, .int .u64 q, .int .u64 lf] 90) = w3 at *
  go_upto_region 5 with (fail)
  refine wp_region_lit ?_
  refine wpList_load_row rfl 90 (.tmp 6) rfl w2.heap.size rfl 90 _ (0, 0) _ HG3.out Tryd.underlying90 rfl info20 ?_
  go_wp2_with fail
  refine (CW.out _ HB3.out).mono ?_
  rintro e w4 ⟨v4, rfl, HW4, hb4⟩
  have HB4 := Lib.hid (below_next HB3.out HB3.out.size hb4)
  have HP4 := Lib.hid (HP3.out.next hb4)
  have HX4 := Lib.hid (HX3.out.next hb4)
  have HG4 := Lib.hid (HG3.out.next hb4)
  have hz4 : w3.heap.size ≤ w4.heap.size := hb4.size
  clear hb4 HB3 HP3 HX3 HG3 CW
  cases pr
  · obtain rfl := HW4.out.2 rfl
    have HE3 := Lib.hid (show prE x = 3 from HPE.out)
    clear HPE HW4 CSm HPW
    have HB5 := Lib.hid (HB4.out.alloc HB4.out.size (.cells #[.int .i64 0, .int .u64 0, .slice none 0 0, .slice none 0 0] 30))
    have HP5 := Lib.hid (HP4.out.alloc (.cells #[.int .i64 0, .int .u64 0, .slice none 0 0, .slice none 0 0] 30))
    go_upto_region 7 with (fail)
    generalize w4.alloc (.cells #[.int .i64 0, .int .u64 0, .slice none 0 0, .slice none 0 0] 30) = w5 at *
    refine wp_region_lit ?_
    refine wpList_run (w' := w5) (v := .agg zero20) rfl (by kernel_rfl) ?_
    refine wpList_store_row rfl 90 (.tmp 2) (.tmp 33) rfl (w.heap.size + 1) zero20 (by rfl) (by rfl) 90 _ HP5.out info20 rfl (by first | rfl | simp [Value.oneCell']) ?_
    have HK9 := Lib.hid (blk_setRow HP5.out zero20)
    have HB9 := Lib.hid (below_setRow HB5.out (Nat.le_succ _) zero20)
    generalize w5.setRow (w.heap.size + 1) zero20 = W9 at *
    go_wp2_with fail
    exact bodyPost_ret (results_row_tmp rfl _ _ (w.heap.size + 1) _ _ (0, 0) _ rfl HK9.out Tryd.underlying90 rfl info20) rfl ⟨by rw [HPI.out, HE3.out]; rfl, HB9.out⟩
  · have hpw := HPW.out rfl
    obtain ⟨g, rfl, hg1, hg2⟩ := HW4.out.1 rfl
    have HI4 := Lib.hid (Laid.item (w := w3) ⟨g, rfl, hg1, hg2⟩ hpw.1 hpw.2.1)
    have HS5 := Lib.hid (fun (W : World) (h : Below w4.heap.size w4 W) => CSm.out W _ (below_next HB4.out HB4.out.size h) rfl ((HI4.out.below h).more (Nat.zero_le _) h.size))
    generalize PW.sub.length = pl at *
    clear hpw HPW HW4 CSm hg1 hg2 HI4
    have HB5 := Lib.hid ((Below.refl w4.heap.size w4).alloc (Nat.le_refl _) (.cells #[.int .i64 4, .int .u64 0, .slice none 0 0, .slice (some ⟨g, 0, none⟩) pl pl] 30))
    have HC5 := Lib.hid (HS5.out _ HB5.out)
    have HP5 := Lib.hid (HP4.out.next HB5.out)
    have HG5 := Lib.hid (HG4.out.next HB5.out)
    have HX5 := Lib.hid (HX4.out.next HB5.out)
    have HK5 := Lib.hid (Blk.new w4 30 #[.int .i64 4, .int .u64 0, .slice none 0 0, .slice (some ⟨g, 0, none⟩) pl pl])
    have HBB := Lib.hid (below_next HB4.out HB4.out.size HB5.out)
    clear HS5 HP4 HG4 HX4 HB4 HB5
    go_upto_region 6 with (fail)
    generalize w4.alloc (.cells #[.int .i64 4, .int .u64 0, .slice none 0 0, .slice (some ⟨g, 0, none⟩) pl pl] 30) = w5 at *
    obtain ⟨⟨x0, x1, x2, x3⟩, -⟩ := cells_item HX5.out
    obtain ⟨⟨z0, z1, z2, z3⟩, -⟩ := cells_item HK5.out
    go_wp2_with fail
    refine HC5.out.mono ?_
    rintro e w6 ⟨rfl, hb6⟩
    have HB6 := Lib.hid (below_next HBB.out HBB.out.size hb6)
    have HP6 := Lib.hid (HP5.out.next hb6)
    have HG6 := Lib.hid (HG5.out.next hb6)
    clear hb6 HC5 HP5 HG5 HX5 HK5 HBB x0 x1 x2 x3 z0 z1 z2 z3
    cases hsm : same PW x
    · rw [hsm] at HPE
      have HE3 := Lib.hid (show prE x = 3 from HPE.out)
      clear HPE hsm
      go_upto_region 7 with (fail)
      refine wp_region_lit ?_
      refine wpList_run (w' := w6) (v := .agg zero20) rfl (by kernel_rfl) ?_
      refine wpList_store_row rfl 90 (.tmp 2) (.tmp 33) rfl (w.heap.size + 1) zero20 (by rfl) (by rfl) 90 _ HP6.out info20 rfl (by first | rfl | simp [Value.oneCell']) ?_
      have HK9 := Lib.hid (blk_setRow HP6.out zero20)
      have HB9 := Lib.hid (below_setRow HB6.out (Nat.le_succ _) zero20)
      generalize w6.setRow (w.heap.size + 1) zero20 = W9 at *
      go_wp2_with fail
      exact bodyPost_ret (results_row_tmp rfl _ _ (w.heap.size + 1) _ _ (0, 0) _ rfl HK9.out Tryd.underlying90 rfl info20) rfl ⟨by rw [HPI.out, HE3.out]; rfl, HB9.out⟩
    · rw [hsm] at HPE
      have HE0 := Lib.hid (show prE x = 0 from HPE.out)
      clear HPE hsm
      go_upto_region 8 with (fail)
      refine wp_region_lit ?_
      refine wpList_load_row rfl 90 (.tmp 6) rfl w2.heap.size rfl 90 _ (0, 0) _ HG6.out Tryd.underlying90 rfl info20 ?_
      refine wpList_store_row rfl 90 (.tmp 2) (.tmp 34) rfl (w.heap.size + 1) #[.int .u64 f, .int .i64 sm, .bool di, .int .u64 dn, .int .u64 ds, .string dh, .string dd, .bool ri, .int .u64 rn, .int .u64 rs, .string rh, .string rd, .bool ii, .int .u64 inn, .int .u64 iss, .string ih, .string idd, .int .u64 t, .int .u64 q, .int .u64 lf] (by rfl) (by rfl) 90 _ HP6.out info20 rfl (by first | rfl | simp [Value.oneCell']) ?_
      have HK9 := Lib.hid (blk_setRow HP6.out #[.int .u64 f, .int .i64 sm, .bool di, .int .u64 dn, .int .u64 ds, .string dh, .string dd, .bool ri, .int .u64 rn, .int .u64 rs, .string rh, .string rd, .bool ii, .int .u64 inn, .int .u64 iss, .string ih, .string idd, .int .u64 t, .int .u64 q, .int .u64 lf])
      have HB9 := Lib.hid (below_setRow HB6.out (Nat.le_succ _) #[.int .u64 f, .int .i64 sm, .bool di, .int .u64 dn, .int .u64 ds, .string dh, .string dd, .bool ri, .int .u64 rn, .int .u64 rs, .string rh, .string rd, .bool ii, .int .u64 inn, .int .u64 iss, .string ih, .string idd, .int .u64 t, .int .u64 q, .int .u64 lf])
      generalize w6.setRow (w.heap.size + 1) #[.int .u64 f, .int .i64 sm, .bool di, .int .u64 dn, .int .u64 ds, .string dh, .string dd, .bool ri, .int .u64 rn, .int .u64 rs, .string rh, .string rd, .bool ii, .int .u64 inn, .int .u64 iss, .string ih, .string idd, .int .u64 t, .int .u64 q, .int .u64 lf] = W9 at *
      go_wp2_with fail
      exact bodyPost_ret (results_row_tmp rfl _ _ (w.heap.size + 1) _ _ (0, 0) _ rfl HK9.out Tryd.underlying90 rfl info20) rfl ⟨by rw [HPI.out, HE0.out]; rfl, HB9.out⟩
theorem pread_any (x : Itm) (v : Value) (w : World) (hv : ItemV w 0 w.heap.size x v) (hE : (enc x).length ≤ 900000000) (hd : deep x ≤ 50000) (hT : Tabs w) (hS : Sz w) :
    Calls Tryd.prog 45 #[v] w fun e w' => e = .returned (.tuple #[(prI x).val, .int .i64 (prE x)]) ∧ Below w.heap.size w w' := by
  by_cases ho : openE x 2 = 0
  · exact pread_ok x v w hv hE hd hT hS ho
  · exact pread_err x v w hv hE hd hT hS ho
end Go.Proofs.YtbgcbcnidjlhnaaDoor.Prim
