/- Texts of my own, laid together: PrimSw, PrimSw0, PrimSw1, PrimSw2. -/
import Derived.Test.YtbgcbcnidjlhnaaDoorZs19
import Derived.Test.YtbgcbcnidjlhnaaDoorGreat
import Derived.Deep.CutBlock
import Derived.BigRegion
/- The statement PrimarySums: the walk. -/
namespace Go.Proofs.YtbgcbcnidjlhnaaDoor.PrimarySums
open Go.RowKit Wd Cb Eid EncB CbCopy CbList CbRight CbWrite CbLays CbSame Prim Great

theorem blk_after (w : World) (o : Obj) (t : TypeId) (cs : Array Value) : Blk ((w.alloc o).drew.alloc (.cells cs t)) (w.heap.size + 1) t cs := by
  have h := Blk.new (w.alloc o).drew t cs
  rwa [show (w.alloc o).drew.heap.size = w.heap.size + 1 from World.size_alloc _ _] at h
/-- The list, with the type ahead. -/
theorem all_items {w W4 : World} {b : Nat} {q : Nat} (hq : q < 3) {l : List Itm} {vs spare : List Value} (hr : Reps w 0 w.heap.size l vs) (hb : Below w.heap.size w W4) (hk : Blk W4 b 30 ([Value.int .i64 0, .int .u64 q, .slice none 0 0, .slice none 0 0] ++ vs ++ spare).toArray) : ItemsV W4 0 W4.heap.size (iN q :: l) (some ⟨b, 0, none⟩) := by
  have r1 : Reps W4 0 W4.heap.size l vs := (hr.below hb).more (Nat.le_refl _) hb.size
  have r2 : Rep W4 0 W4.heap.size (iN q) [.int .i64 0, .int .u64 q, .slice none 0 0, .slice none 0 0] := agg4 (item_num _ _ _ q ⟨by omega, by omega⟩)
  refine ⟨[.int .i64 0, .int .u64 q, .slice none 0 0, .slice none 0 0] ++ vs, .inr ⟨b, 0, rfl, Nat.zero_le _, hk.lt, fun j hj => ?_⟩, Reps.append (l := [iN q]) (Reps.one r2) r1⟩
  rw [Nat.zero_add, hk.cell, List.getElem?_toArray, List.getElem?_append_left hj]
end Go.Proofs.YtbgcbcnidjlhnaaDoor.PrimarySums
/- The statement PrimarySums: the walk, type 0. -/
namespace Go.Proofs.YtbgcbcnidjlhnaaDoor.PrimarySums
open Go.RowKit Wd Cb Eid EncB CbCopy CbList CbRight CbWrite CbLays CbSame Prim Great

set_option maxRecDepth 100000 in
set_option maxHeartbeats 8000000 in
theorem walk0 (l : List Itm) (A : Option Addr) (c : Nat) (sm by_ : Int) (w : World) (hv : ItemsV w 0 w.heap.size l A) (hc : l.length ≤ c) (hm : c ≤ maxLen) (hsm : 0 ≤ sm ∧ sm ≤ 255) (hby : 0 ≤ by_ ∧ by_ ≤ 255) (hT : Tabs w) (hS : Sz w) (hk : sm % 3 = 0) (h20 : ¬ 20 < (l.length : Int)) (hgr : ¬ grt (lst l) 1 100 < 0) :
    Calls Tryd.prog 11 #[.slice A l.length c, .int .u8 sm, .int .u8 by_] w fun e w' => e = .returned (.bool true) ∧ Below w.heap.size w w' := by
  obtain ⟨i0, hi0, hz0, hz1, hz2⟩ := info_parts info_item
  have hgk := grt_ok (lst l) 1 100 (by omega) (by omega) (by omega)
  have hge := grt_le (lst l) 1 100 (by omega)
  have hsz : size (lst l) = 1 + sizes l := rfl
  have hdp : deep (lst l) = 1 + deeps l := rfl
  have hel : (encs l).length ≤ (enc (lst l)).length := (enc_bs (lst l)).2
  have hE : (encs (iN 0 :: l)).length ≤ 800000 := by
    have h1 := iN_len 0
    show (enc (iN 0) ++ encs l).length ≤ 800000
    rw [List.length_append]
    omega
  have hd : deeps (iN 0 :: l) ≤ 100 := by
    show max (deep (iN 0)) (deeps l) ≤ 100
    have : deep (iN 0) = 1 := rfl
    omega
  obtain ⟨vs, hseg, hreps⟩ := hv
  have hvl := hreps.length
  have HTW := Lib.hid (fun (W : World) (h : Below w.heap.size w W) => And.intro (hT.below h (Nat.le_refl _)) (hS.below h (Nat.le_refl _)))
  have CG := Lib.hid (fun (W : World) (h : Below w.heap.size w W) => great_rec (deep (lst l)) (lst l) (listV A l.length c) 1 100 W (Nat.le_refl _) (item_list (((show ItemsV w 0 w.heap.size l A from ⟨vs, hseg, hreps⟩).below h).more (Nat.le_refl _) h.size) rfl hc hm) (by omega) (by omega) (by omega) (by omega))
  have CAl := Lib.hid (fun (W : World) (h : Below w.heap.size w W) => alive06_any W (HTW.out W h).1 (HTW.out W h).2)
  have CN := Lib.hid (fun W => num_any 0 W (by omega) (by omega))
  have hcl : (iN 0 :: l).length = l.length + 1 := rfl
  have CSe := Lib.hid (fun (W : World) (B : Option Addr) (c' : Nat) (h : Below w.heap.size w W) (hi : ItemsV W 0 W.heap.size (iN 0 :: l) B) (h1 : l.length + 1 ≤ c') (h2 : c' ≤ maxLen) => show Calls Tryd.prog 38 #[.slice B (l.length + 1) c', .int .i64 0] W (fun e w' => ∃ v, e = .returned (.tuple #[v, .int .i64 (sealE (iN 0 :: l) 0)]) ∧ Hid (SealO W w' (iN 0 :: l) 0 v) ∧ Below W.heap.size W w') from
    seal_any (iN 0 :: l) B W.heap.size c' 0 W hi (Nat.le_refl _) h1 h2 (by omega) (by omega) (HTW.out W h).1 (HTW.out W h).2)
  have HSE := Lib.hid (show sealE (iN 0 :: l) 0 = 0 ∨ sealE (iN 0 :: l) 0 = 3 from sealE_head 0 l)
  have HSL := Lib.hid (fun h => sealI_len (l := iN 0 :: l) (a := 0) h)
  have dg : decide (20 < (l.length : Int)) = false := decide_eq_false h20
  have dg2 : decide (grt (lst l) 1 100 < 0) = false := decide_eq_false hgr
  have hlm : l.length ≤ 100 := by have h1 := length_le_sizes l; omega
  have HR := Lib.hid hreps
  have HSg := Lib.hid hseg
  have HVL := Lib.hid hvl
  have HK := Lib.hid hk
  have HEd := Lib.hid (And.intro hE hd)
  have HBt := Lib.hid hby
  clear hgk hge hsz hdp hel hreps hseg hvl hT hS hk hE hd hgr h20
  go_enter Tryd.func11, Tryd.ntmps11
  go_wp2_with fail
  refine (CG.out w (Below.refl _ _)).mono ?_
  rintro e w1 ⟨rfl, hb1⟩
  have HB1 := Lib.hid hb1
  clear hb1 CG
  go_upto_region 4 with (fail)
  rw [HK.out]
  go_cut [8] from 27 (fun p8 wx => ∃ (B : Option Addr) (c' : Nat), p8 = .slice B (l.length + 1) c' ∧ l.length + 1 ≤ c' ∧ c' ≤ maxLen ∧ Hid (ItemsV wx 0 wx.heap.size (iN 0 :: l) B) ∧ Hid (Below w.heap.size w wx))
  case first =>
    have hb2 : ∀ w2, Below w1.heap.size w1 w2 → Below w.heap.size w w2 := fun w2 h => below_next HB1.out HB1.out.size h
    have HB2 := Lib.hid hb2
    clear hb2
    rcases Nat.eq_zero_or_pos l.length with hz | hz
    · obtain rfl := List.eq_nil_of_length_eq_zero hz
      simp only [List.length_nil]
      go_wp2_with (first
        | (go_at_call 48
           refine (CN.out _).mono ?_
           rintro e w2 ⟨rfl, hbn⟩
           have HBN := Lib.hid hbn
           clear hbn)
        | (at_builtin
           refine wpList_append_none rfl (.tmp 30) (.tmp 31) _ (by rfl) 30 i0 Tryd.underlying28 hi0 ⟨w2.heap.size, 0, none⟩ 1 A c rfl ⟨_, _, _, rfl, Blk.new w2 30 #[.int .i64 0, .int .u64 0, .slice none 0 0, .slice none 0 0]⟩ (by rfl) (by rfl) ?_))
      go_meet
      exact ⟨_, 1, rfl, Nat.le_refl _, by decide, Lib.hid (all_items (b := w2.heap.size) (q := 0) (by omega) (vs := vs) (spare := []) HR.out (HB2.out _ (HBN.out.alloc HBN.out.size _)) (by
        obtain rfl : vs = [] := List.eq_nil_of_length_eq_zero (by rw [HVL.out]; rfl)
        exact Blk.new w2 30 _)), Lib.hid (HB2.out _ (HBN.out.alloc HBN.out.size _))⟩
    · have hvp : 0 < vs.length := by have := HVL.out; omega
      go_wp2_with (first
        | (go_at_call 48
           refine (CN.out _).mono ?_
           rintro e w2 ⟨rfl, hbn⟩
           have HBN := Lib.hid hbn
           clear hbn)
        | (at_builtin
           refine wpList_append_clip _ rfl (.tmp 30) (.tmp 31) _ (by rfl) 30 i0 _ 64 Tryd.underlying28 hi0 hz0 4 hz1 hz2 0 (w2.heap.size + 1) (some ⟨w2.heap.size, 0, none⟩) 1 [.int .i64 0, .int .u64 0, .slice none 0 0, .slice none 0 0] (by rfl) (by simp) rfl (Seg.of_blk (Blk.new w2 30 #[.int .i64 0, .int .u64 0, .slice none 0 0, .slice none 0 0]) (by simp)) 0 w.heap.size A l.length c vs (by rfl) hvp HVL.out (HSg.out.below (HB2.out _ (HBN.out.alloc HBN.out.size _))) (by unfold maxLen; omega) (by omega) ?_
           intro c' spare hc1 hc2))
      go_meet
      have HBX := Lib.hid (HB2.out _ ((HBN.out.alloc HBN.out.size (.cells #[.int .i64 0, .int .u64 0, .slice none 0 0, .slice none 0 0] 30)).drew.alloc (Nat.le_trans HBN.out.size (by simp)) (.cells ([Value.int .i64 0, .int .u64 0, .slice none 0 0, .slice none 0 0] ++ vs ++ spare).toArray 30)))
      exact ⟨_, c', by rw [Nat.add_comm 1], by omega, hc2, Lib.hid (all_items (q := 0) (by omega) HR.out HBX.out (blk_after w2 _ 30 _)), HBX⟩
  case rest =>
    obtain ⟨B, c', rfl, hc1, hc2, HI, HBc⟩ := hcut
    clear CN HSg HR HVL HK HB1 hc hm
    have hcm := hc2
    unfold maxLen at hcm
    have HSx := Lib.hid (CSe.out wc B c' HBc.out HI.out hc1 hc2)
    clear CSe HI
    go_wp2_with fail
    refine HSx.out.mono ?_
    rintro e w3 ⟨v3, rfl, HO, hb3⟩
    have HB3 := Lib.hid (below_next HBc.out HBc.out.size hb3)
    have hw3 : wc.heap.size ≤ w3.heap.size := hb3.size
    clear hb3 HSx
    rcases HSE.out with hE0 | hE3
    · rw [hE0]
      obtain ⟨g, rfl, hg1, hg2⟩ := HO.out.1 hE0
      have hlen : (sealI (iN 0 :: l) 0).sub.length = l.length + 1 := by
        have ht := typAt_head 0 (by omega) l
        have hI : sealI (iN 0 :: l) 0 = sealed (iN 0 :: l) 0 := by unfold sealI; rw [if_pos hE0, show typAt (iN 0 :: l) 0 = 0 from ht]; rfl
        rw [hI]
        rfl
      rw [hlen]
      have HB4 := Lib.hid (HB3.out.alloc HB3.out.size (.cells #[.int .i64 4, .int .u64 0, .slice none 0 0, .slice (some ⟨g, 0, none⟩) (l.length + 1) (l.length + 1)] 30))
      have HK4 := Lib.hid (Blk.new w3 30 #[.int .i64 4, .int .u64 0, .slice none 0 0, .slice (some ⟨g, 0, none⟩) (l.length + 1) (l.length + 1)])
      have HA4 := Lib.hid (CAl.out _ HB4.out)
      clear HSL HO HB3 CAl hE0 HSE hg1 hg2 hlen
      go_wp2_with fail
      refine HA4.out.mono ?_
      rintro e w5 ⟨rfl, hb5⟩
      have HB5 := Lib.hid (below_next HB4.out HB4.out.size hb5)
      obtain ⟨⟨x0, x1, x2, x3⟩, -⟩ := cells_item (HK4.out.next hb5)
      clear hb5 HA4 HB4 HK4
      go_wp2_with fail
      go_ret
      exact ⟨rfl, HB5.out⟩
    · rw [hE3]
      obtain rfl := HO.out.2 (by omega)
      have HB4 := Lib.hid (HB3.out.alloc HB3.out.size (.cells #[.int .i64 0, .int .u64 0, .slice none 0 0, .slice none 0 0] 30))
      have HA4 := Lib.hid (CAl.out _ HB4.out)
      clear HSL HO HB3 CAl hE3 HSE
      go_wp2_with fail
      refine HA4.out.mono ?_
      rintro e w5 ⟨rfl, hb5⟩
      have HB5 := Lib.hid (below_next HB4.out HB4.out.size hb5)
      clear hb5 HA4 HB4
      go_wp2_with fail
      go_ret
      exact ⟨rfl, HB5.out⟩
end Go.Proofs.YtbgcbcnidjlhnaaDoor.PrimarySums
/- The statement PrimarySums: the walk, type 1. -/
namespace Go.Proofs.YtbgcbcnidjlhnaaDoor.PrimarySums
open Go.RowKit Wd Cb Eid EncB CbCopy CbList CbRight CbWrite CbLays CbSame Prim Great

set_option maxRecDepth 100000 in
set_option maxHeartbeats 8000000 in
theorem walk1 (l : List Itm) (A : Option Addr) (c : Nat) (sm by_ : Int) (w : World) (hv : ItemsV w 0 w.heap.size l A) (hc : l.length ≤ c) (hm : c ≤ maxLen) (hsm : 0 ≤ sm ∧ sm ≤ 255) (hby : 0 ≤ by_ ∧ by_ ≤ 255) (hT : Tabs w) (hS : Sz w) (hk : sm % 3 = 1) (h20 : ¬ 20 < (l.length : Int)) (hgr : ¬ grt (lst l) 1 100 < 0) :
    Calls Tryd.prog 11 #[.slice A l.length c, .int .u8 sm, .int .u8 by_] w fun e w' => e = .returned (.bool true) ∧ Below w.heap.size w w' := by
  obtain ⟨i0, hi0, hz0, hz1, hz2⟩ := info_parts info_item
  have hgk := grt_ok (lst l) 1 100 (by omega) (by omega) (by omega)
  have hge := grt_le (lst l) 1 100 (by omega)
  have hsz : size (lst l) = 1 + sizes l := rfl
  have hdp : deep (lst l) = 1 + deeps l := rfl
  have hel : (encs l).length ≤ (enc (lst l)).length := (enc_bs (lst l)).2
  have hE : (encs (iN 1 :: l)).length ≤ 800000 := by
    have h1 := iN_len 1
    show (enc (iN 1) ++ encs l).length ≤ 800000
    rw [List.length_append]
    omega
  have hd : deeps (iN 1 :: l) ≤ 100 := by
    show max (deep (iN 1)) (deeps l) ≤ 100
    have : deep (iN 1) = 1 := rfl
    omega
  obtain ⟨vs, hseg, hreps⟩ := hv
  have hvl := hreps.length
  have HTW := Lib.hid (fun (W : World) (h : Below w.heap.size w W) => And.intro (hT.below h (Nat.le_refl _)) (hS.below h (Nat.le_refl _)))
  have CG := Lib.hid (fun (W : World) (h : Below w.heap.size w W) => great_rec (deep (lst l)) (lst l) (listV A l.length c) 1 100 W (Nat.le_refl _) (item_list (((show ItemsV w 0 w.heap.size l A from ⟨vs, hseg, hreps⟩).below h).more (Nat.le_refl _) h.size) rfl hc hm) (by omega) (by omega) (by omega) (by omega))
  have CAl := Lib.hid (fun (W : World) (h : Below w.heap.size w W) => alive06_any W (HTW.out W h).1 (HTW.out W h).2)
  have CN := Lib.hid (fun W => num_any 1 W (by omega) (by omega))
  have hcl : (iN 1 :: l).length = l.length + 1 := rfl
  have CSe := Lib.hid (fun (W : World) (B : Option Addr) (c' : Nat) (h : Below w.heap.size w W) (hi : ItemsV W 0 W.heap.size (iN 1 :: l) B) (h1 : l.length + 1 ≤ c') (h2 : c' ≤ maxLen) => show Calls Tryd.prog 38 #[.slice B (l.length + 1) c', .int .i64 0] W (fun e w' => ∃ v, e = .returned (.tuple #[v, .int .i64 (sealE (iN 1 :: l) 0)]) ∧ Hid (SealO W w' (iN 1 :: l) 0 v) ∧ Below W.heap.size W w') from
    seal_any (iN 1 :: l) B W.heap.size c' 0 W hi (Nat.le_refl _) h1 h2 (by omega) (by omega) (HTW.out W h).1 (HTW.out W h).2)
  have HSE := Lib.hid (show sealE (iN 1 :: l) 0 = 0 ∨ sealE (iN 1 :: l) 0 = 3 from sealE_head 1 l)
  have HSL := Lib.hid (fun h => sealI_len (l := iN 1 :: l) (a := 0) h)
  have dg : decide (20 < (l.length : Int)) = false := decide_eq_false h20
  have dg2 : decide (grt (lst l) 1 100 < 0) = false := decide_eq_false hgr
  have hlm : l.length ≤ 100 := by have h1 := length_le_sizes l; omega
  have HR := Lib.hid hreps
  have HSg := Lib.hid hseg
  have HVL := Lib.hid hvl
  have HK := Lib.hid hk
  have HEd := Lib.hid (And.intro hE hd)
  have HBt := Lib.hid hby
  clear hgk hge hsz hdp hel hreps hseg hvl hT hS hk hE hd hgr h20
  go_enter Tryd.func11, Tryd.ntmps11
  go_wp2_with fail
  refine (CG.out w (Below.refl _ _)).mono ?_
  rintro e w1 ⟨rfl, hb1⟩
  have HB1 := Lib.hid hb1
  clear hb1 CG
  go_upto_region 4 with (fail)
  rw [HK.out]
  go_cut [8] from 27 (fun p8 wx => ∃ (B : Option Addr) (c' : Nat), p8 = .slice B (l.length + 1) c' ∧ l.length + 1 ≤ c' ∧ c' ≤ maxLen ∧ Hid (ItemsV wx 0 wx.heap.size (iN 1 :: l) B) ∧ Hid (Below w.heap.size w wx))
  case first =>
    have hb2 : ∀ w2, Below w1.heap.size w1 w2 → Below w.heap.size w w2 := fun w2 h => below_next HB1.out HB1.out.size h
    have HB2 := Lib.hid hb2
    clear hb2
    rcases Nat.eq_zero_or_pos l.length with hz | hz
    · obtain rfl := List.eq_nil_of_length_eq_zero hz
      simp only [List.length_nil]
      go_wp2_with (first
        | (go_at_call 48
           refine (CN.out _).mono ?_
           rintro e w2 ⟨rfl, hbn⟩
           have HBN := Lib.hid hbn
           clear hbn)
        | (at_builtin
           refine wpList_append_none rfl (.tmp 30) (.tmp 31) _ (by rfl) 30 i0 Tryd.underlying28 hi0 ⟨w2.heap.size, 0, none⟩ 1 A c rfl ⟨_, _, _, rfl, Blk.new w2 30 #[.int .i64 0, .int .u64 1, .slice none 0 0, .slice none 0 0]⟩ (by rfl) (by rfl) ?_))
      go_meet
      exact ⟨_, 1, rfl, Nat.le_refl _, by decide, Lib.hid (all_items (b := w2.heap.size) (q := 1) (by omega) (vs := vs) (spare := []) HR.out (HB2.out _ (HBN.out.alloc HBN.out.size _)) (by
        obtain rfl : vs = [] := List.eq_nil_of_length_eq_zero (by rw [HVL.out]; rfl)
        exact Blk.new w2 30 _)), Lib.hid (HB2.out _ (HBN.out.alloc HBN.out.size _))⟩
    · have hvp : 0 < vs.length := by have := HVL.out; omega
      go_wp2_with (first
        | (go_at_call 48
           refine (CN.out _).mono ?_
           rintro e w2 ⟨rfl, hbn⟩
           have HBN := Lib.hid hbn
           clear hbn)
        | (at_builtin
           refine wpList_append_clip _ rfl (.tmp 30) (.tmp 31) _ (by rfl) 30 i0 _ 64 Tryd.underlying28 hi0 hz0 4 hz1 hz2 0 (w2.heap.size + 1) (some ⟨w2.heap.size, 0, none⟩) 1 [.int .i64 0, .int .u64 1, .slice none 0 0, .slice none 0 0] (by rfl) (by simp) rfl (Seg.of_blk (Blk.new w2 30 #[.int .i64 0, .int .u64 1, .slice none 0 0, .slice none 0 0]) (by simp)) 0 w.heap.size A l.length c vs (by rfl) hvp HVL.out (HSg.out.below (HB2.out _ (HBN.out.alloc HBN.out.size _))) (by unfold maxLen; omega) (by omega) ?_
           intro c' spare hc1 hc2))
      go_meet
      have HBX := Lib.hid (HB2.out _ ((HBN.out.alloc HBN.out.size (.cells #[.int .i64 0, .int .u64 1, .slice none 0 0, .slice none 0 0] 30)).drew.alloc (Nat.le_trans HBN.out.size (by simp)) (.cells ([Value.int .i64 0, .int .u64 1, .slice none 0 0, .slice none 0 0] ++ vs ++ spare).toArray 30)))
      exact ⟨_, c', by rw [Nat.add_comm 1], by omega, hc2, Lib.hid (all_items (q := 1) (by omega) HR.out HBX.out (blk_after w2 _ 30 _)), HBX⟩
  case rest =>
    obtain ⟨B, c', rfl, hc1, hc2, HI, HBc⟩ := hcut
    clear CN HSg HR HVL HK HB1 hc hm
    have hcm := hc2
    unfold maxLen at hcm
    have HSx := Lib.hid (CSe.out wc B c' HBc.out HI.out hc1 hc2)
    clear CSe HI
    go_wp2_with fail
    refine HSx.out.mono ?_
    rintro e w3 ⟨v3, rfl, HO, hb3⟩
    have HB3 := Lib.hid (below_next HBc.out HBc.out.size hb3)
    have hw3 : wc.heap.size ≤ w3.heap.size := hb3.size
    clear hb3 HSx
    rcases HSE.out with hE0 | hE3
    · rw [hE0]
      obtain ⟨g, rfl, hg1, hg2⟩ := HO.out.1 hE0
      have hst : ∃ (b0 : Int) (t : List Int), sealI (iN 1 :: l) 0 = withB (iN 1 :: l) (b0 :: t) ∧ (b0 :: t).length = 2 ∧ (∀ c, c ≠ b0 → openE (withB (iN 1 :: l) (c :: t)) 0 = 10) := sums_turned (q := 1) (by omega) hE0
      obtain ⟨b0, tl, hsI, htl, hop⟩ := hst
      rw [hsI] at hg2 ⊢
      have hlen : (withB (iN 1 :: l) (b0 :: tl)).sub.length = l.length + 1 + 1 := by
        show ((iN 1 :: l) ++ [Itm.mk 2 0 (b0 :: tl) []]).length = _
        simp
      rw [hlen]
      obtain ⟨vs0, spare, hblk, hlays⟩ := hg2
      obtain ⟨m, vs', cz, rfl, hl1, ⟨AB, A', rfl, -, -, hbt, -, hown, -, -⟩, hm1⟩ := Lays.last_ hlays
      rcases hown with hbad | ⟨gB, csB, rfl, hgB1, hgB2, hbB, hsB, hcB⟩
      · cases hbad
      have hbt : St.bts (b0 :: tl) := hbt
      have htl1 : tl.length + 1 = 2 := htl
      have hb0 : 0 ≤ b0 ∧ b0 ≤ 255 := hbt b0 (by simp)
      have hvl' : vs'.length = (l.length + 1) * 4 := hl1.reps.length
      have hgm := hl1.le
      have HBk := Lib.hid (show Blk w3 g 30 (vs' ++ [Value.int .i64 2, .int .u64 0, .slice (some ⟨gB, 0, none⟩) (tl.length + 1) (tl.length + 1), .slice A' 0 0] ++ spare).toArray from hblk)
      have HL1 := Lib.hid hl1
      have HBB := Lib.hid hbB
      have HCB := Lib.hid hcB
      have HSB := Lib.hid (show tl.length + 1 ≤ csB.size from hsB)
      have HOP := Lib.hid hop
      have HBT := Lib.hid hbt
      have HTL := Lib.hid htl1
      have hgl := HBk.out.lt
      generalize hN : l.length + 1 = N at *
      have r2 : w3.cell? ⟨g, N * 4 + 2, none⟩ = some (.slice (some ⟨gB, 0, none⟩) 2 2) := by
        rw [HBk.out.cell, htl1, ← hvl']
        simp
      have r3 : w3.cell? ⟨gB, 0, none⟩ = some (.int .u8 b0) := by
        rw [HBB.out.cell]
        exact hcB 0 (by show 0 < tl.length + 1; omega)
      have HN := Lib.hid hN
      have HB4 := Lib.hid (HB3.out.alloc HB3.out.size (.cells #[.int .i64 4, .int .u64 0, .slice none 0 0, .slice (some ⟨g, 0, none⟩) (N + 1) (N + 1)] 30))
      have hba : Below w3.heap.size w3 (w3.alloc (.cells #[.int .i64 4, .int .u64 0, .slice none 0 0, .slice (some ⟨g, 0, none⟩) (N + 1) (N + 1)] 30)) := (Below.refl _ _).alloc (Nat.le_refl _) _
      have HK4 := Lib.hid (Blk.new w3 30 #[.int .i64 4, .int .u64 0, .slice none 0 0, .slice (some ⟨g, 0, none⟩) (N + 1) (N + 1)])
      have s2 := (hba.cell (p := ⟨g, N * 4 + 2, none⟩) hgl).trans r2
      have s3 := (hba.cell (p := ⟨gB, 0, none⟩) hgB2).trans r3
      have HBk4 := Lib.hid (HBk.out.next hba)
      have HBB4 := Lib.hid (HBB.out.next hba)
      have HL4 := Lib.hid (HL1.out.below hba (Nat.le_trans hm1 (Nat.le_refl _)))
      have f3 := HBB4.out.frozen 0
      have hz4 : w3.heap.size < (w3.alloc (.cells #[.int .i64 4, .int .u64 0, .slice none 0 0, .slice (some ⟨g, 0, none⟩) (N + 1) (N + 1)] 30)).heap.size := by simp
      have j2 : (N : Int) < (N : Int) + 1 := by omega
      have j3 : decide (N + 1 ≤ N) = false := decide_eq_false (by omega)
      have j4 : (0 : Int) ≤ (N : Int) := by omega
      have hNm : N ≤ 101 := by omega
      clear HSL HO HB3 hE0 HSE hlays hsI hlen hblk hl1 hbB hcB hop hbt htl1 htl r2 r3 hba hvl' hsB HBk HL1 HBB hN
      go_upto_region 10 with (fail)
      generalize w3.alloc (.cells #[.int .i64 4, .int .u64 0, .slice none 0 0, .slice (some ⟨g, 0, none⟩) (N + 1) (N + 1)] 30) = w4 at *
      obtain ⟨⟨x0, x1, x2, x3⟩, -⟩ := cells_item HK4.out
      go_upto_region 13 with (fail)
      go_region
      obtain ⟨t1, t2, t3⟩ := turn_byte b0 by_ hb0.1 hb0.2 HBt.out.1 HBt.out.2
      generalize bits .xor .u8 b0 (bits .or .u8 by_ 1) = X at *
      have hwg : w.heap.size ≤ gB := by have := HBc.out.size; omega
      have HR9 : Hid (Row (w4.setCell ⟨gB, 0, none⟩ (.int .u8 X)).drew g (g + 1) (w4.setCell ⟨gB, 0, none⟩ (.int .u8 X)).drew.heap.size ((iN 1 :: l) ++ [.mk 2 0 (X :: tl) []])) := Lib.hid (by
        have h := row_turned (c := X) HBk4.out HL4.out hgB1 (Nat.lt_trans hgB2 hz4) HBB4.out HSB.out HCB.out (fun y hy => by
          rcases List.mem_cons.1 hy with rfl | hy
          · omega
          · exact HBT.out y (by simp [hy])) (by have := HTL.out; omega)
        obtain ⟨vs9, sp9, h1, h2⟩ := h
        exact ⟨vs9, sp9, h1, lays_up (h2.keep (w' := (w4.setCell ⟨gB, 0, none⟩ (.int .u8 X)).drew) fun _ _ _ => rfl) (by simp [World.setCell])⟩)
      have HK9 := Lib.hid ((HK4.out.far (p := ⟨gB, 0, none⟩) (by show w3.heap.size ≠ gB; omega) (.int .u8 X)).drew)
      have HB9 := Lib.hid ((HB4.out.setCell (p := ⟨gB, 0, none⟩) hwg (.int .u8 X)).drew)
      have HOPX := Lib.hid (HOP.out X t1)
      generalize (w4.setCell ⟨gB, 0, none⟩ (.int .u8 X)).drew = w9 at *
      have hll : ((iN 1 :: l) ++ [Itm.mk 2 0 (X :: tl) []]).length = N + 1 := by
        have := HN.out
        simp
        omega
      have HCO := Lib.hid (open_any (lst ((iN 1 :: l) ++ [.mk 2 0 (X :: tl) []])) (listV (some ⟨g, 0, none⟩) (N + 1) (N + 1)) 0 w9 (lst_items HR9.out rfl hll (by unfold maxLen; omega)) (by
        have h1 := enc_lst_len ((iN 1 :: l) ++ [.mk 2 0 (X :: tl) []])
        have h2 := encs_with_len (iN 1 :: l) (X :: tl)
        have h3 := HEd.out.1
        have h4 : (X :: tl).length = tl.length + 1 := rfl
        have h5 := HTL.out
        omega) (by
        have h1 : deep (lst ((iN 1 :: l) ++ [.mk 2 0 (X :: tl) []])) = 1 + deeps ((iN 1 :: l) ++ [.mk 2 0 (X :: tl) []]) := rfl
        have h2 : deeps ((iN 1 :: l) ++ [Itm.mk 2 0 (X :: tl) []]) = max (deeps (iN 1 :: l)) 1 := by rw [deeps_append]; rfl
        have h3 := HEd.out.2
        omega) (HTW.out w9 HB9.out).1 (HTW.out w9 HB9.out).2)
      have HAl := Lib.hid (fun (W : World) (h : Below w9.heap.size w9 W) => CAl.out W (below_next HB9.out HB9.out.size h))
      clear HB4 HK4 HBk4 HBB4 HL4 HOP HBT HTL HN HCB HSB HR9 s2 s3 f3 x0 x1 x2 x3 hb0 t1 t2 t3 HEd CAl HTW HBc
      go_upto_region 14 with (fail)
      obtain ⟨⟨x0, x1, x2, x3⟩, -⟩ := cells_item HK9.out
      go_wp2_with fail
      refine HCO.out.mono ?_
      rintro e w10 ⟨⟨AO, rfl, HIO⟩, hb10⟩
      rw [HOPX.out]
      have HB10 := Lib.hid hb10
      clear hb10 HCO HIO HOPX HK9 x0 x1 x2 x3
      generalize (openL (lst ((iN 1 :: l) ++ [.mk 2 0 (X :: tl) []])) 0).length = ol at *
      go_wp2_with fail
      refine (HAl.out _ HB10.out).mono ?_
      rintro e w11 ⟨rfl, hb11⟩
      have HB11 := Lib.hid (below_next HB9.out HB9.out.size (below_next HB10.out HB10.out.size hb11))
      clear hb11 HAl HB10 HB9
      go_wp2_with fail
      go_ret
      exact ⟨rfl, HB11.out⟩
    · rw [hE3]
      obtain rfl := HO.out.2 (by omega)
      have HB4 := Lib.hid (HB3.out.alloc HB3.out.size (.cells #[.int .i64 0, .int .u64 0, .slice none 0 0, .slice none 0 0] 30))
      have HA4 := Lib.hid (CAl.out _ HB4.out)
      clear HSL HO HB3 CAl hE3 HSE
      go_wp2_with fail
      refine HA4.out.mono ?_
      rintro e w5 ⟨rfl, hb5⟩
      have HB5 := Lib.hid (below_next HB4.out HB4.out.size hb5)
      clear hb5 HA4 HB4
      go_wp2_with fail
      go_ret
      exact ⟨rfl, HB5.out⟩
end Go.Proofs.YtbgcbcnidjlhnaaDoor.PrimarySums
/- The statement PrimarySums: the walk, type 2. -/
namespace Go.Proofs.YtbgcbcnidjlhnaaDoor.PrimarySums
open Go.RowKit Wd Cb Eid EncB CbCopy CbList CbRight CbWrite CbLays CbSame Prim Great

set_option maxRecDepth 100000 in
set_option maxHeartbeats 8000000 in
theorem walk2 (l : List Itm) (A : Option Addr) (c : Nat) (sm by_ : Int) (w : World) (hv : ItemsV w 0 w.heap.size l A) (hc : l.length ≤ c) (hm : c ≤ maxLen) (hsm : 0 ≤ sm ∧ sm ≤ 255) (hby : 0 ≤ by_ ∧ by_ ≤ 255) (hT : Tabs w) (hS : Sz w) (hk : sm % 3 = 2) (h20 : ¬ 20 < (l.length : Int)) (hgr : ¬ grt (lst l) 1 100 < 0) :
    Calls Tryd.prog 11 #[.slice A l.length c, .int .u8 sm, .int .u8 by_] w fun e w' => e = .returned (.bool true) ∧ Below w.heap.size w w' := by
  obtain ⟨i0, hi0, hz0, hz1, hz2⟩ := info_parts info_item
  have hgk := grt_ok (lst l) 1 100 (by omega) (by omega) (by omega)
  have hge := grt_le (lst l) 1 100 (by omega)
  have hsz : size (lst l) = 1 + sizes l := rfl
  have hdp : deep (lst l) = 1 + deeps l := rfl
  have hel : (encs l).length ≤ (enc (lst l)).length := (enc_bs (lst l)).2
  have hE : (encs (iN 2 :: l)).length ≤ 800000 := by
    have h1 := iN_len 2
    show (enc (iN 2) ++ encs l).length ≤ 800000
    rw [List.length_append]
    omega
  have hd : deeps (iN 2 :: l) ≤ 100 := by
    show max (deep (iN 2)) (deeps l) ≤ 100
    have : deep (iN 2) = 1 := rfl
    omega
  obtain ⟨vs, hseg, hreps⟩ := hv
  have hvl := hreps.length
  have HTW := Lib.hid (fun (W : World) (h : Below w.heap.size w W) => And.intro (hT.below h (Nat.le_refl _)) (hS.below h (Nat.le_refl _)))
  have CG := Lib.hid (fun (W : World) (h : Below w.heap.size w W) => great_rec (deep (lst l)) (lst l) (listV A l.length c) 1 100 W (Nat.le_refl _) (item_list (((show ItemsV w 0 w.heap.size l A from ⟨vs, hseg, hreps⟩).below h).more (Nat.le_refl _) h.size) rfl hc hm) (by omega) (by omega) (by omega) (by omega))
  have CAl := Lib.hid (fun (W : World) (h : Below w.heap.size w W) => alive06_any W (HTW.out W h).1 (HTW.out W h).2)
  have CN := Lib.hid (fun W => num_any 2 W (by omega) (by omega))
  have hcl : (iN 2 :: l).length = l.length + 1 := rfl
  have CSe := Lib.hid (fun (W : World) (B : Option Addr) (c' : Nat) (h : Below w.heap.size w W) (hi : ItemsV W 0 W.heap.size (iN 2 :: l) B) (h1 : l.length + 1 ≤ c') (h2 : c' ≤ maxLen) => show Calls Tryd.prog 38 #[.slice B (l.length + 1) c', .int .i64 0] W (fun e w' => ∃ v, e = .returned (.tuple #[v, .int .i64 (sealE (iN 2 :: l) 0)]) ∧ Hid (SealO W w' (iN 2 :: l) 0 v) ∧ Below W.heap.size W w') from
    seal_any (iN 2 :: l) B W.heap.size c' 0 W hi (Nat.le_refl _) h1 h2 (by omega) (by omega) (HTW.out W h).1 (HTW.out W h).2)
  have HSE := Lib.hid (show sealE (iN 2 :: l) 0 = 0 ∨ sealE (iN 2 :: l) 0 = 3 from sealE_head 2 l)
  have HSL := Lib.hid (fun h => sealI_len (l := iN 2 :: l) (a := 0) h)
  have dg : decide (20 < (l.length : Int)) = false := decide_eq_false h20
  have dg2 : decide (grt (lst l) 1 100 < 0) = false := decide_eq_false hgr
  have hlm : l.length ≤ 100 := by have h1 := length_le_sizes l; omega
  have HR := Lib.hid hreps
  have HSg := Lib.hid hseg
  have HVL := Lib.hid hvl
  have HK := Lib.hid hk
  have HEd := Lib.hid (And.intro hE hd)
  have HBt := Lib.hid hby
  clear hgk hge hsz hdp hel hreps hseg hvl hT hS hk hE hd hgr h20
  go_enter Tryd.func11, Tryd.ntmps11
  go_wp2_with fail
  refine (CG.out w (Below.refl _ _)).mono ?_
  rintro e w1 ⟨rfl, hb1⟩
  have HB1 := Lib.hid hb1
  clear hb1 CG
  go_upto_region 4 with (fail)
  rw [HK.out]
  go_cut [8] from 27 (fun p8 wx => ∃ (B : Option Addr) (c' : Nat), p8 = .slice B (l.length + 1) c' ∧ l.length + 1 ≤ c' ∧ c' ≤ maxLen ∧ Hid (ItemsV wx 0 wx.heap.size (iN 2 :: l) B) ∧ Hid (Below w.heap.size w wx))
  case first =>
    have hb2 : ∀ w2, Below w1.heap.size w1 w2 → Below w.heap.size w w2 := fun w2 h => below_next HB1.out HB1.out.size h
    have HB2 := Lib.hid hb2
    clear hb2
    rcases Nat.eq_zero_or_pos l.length with hz | hz
    · obtain rfl := List.eq_nil_of_length_eq_zero hz
      simp only [List.length_nil]
      go_wp2_with (first
        | (go_at_call 48
           refine (CN.out _).mono ?_
           rintro e w2 ⟨rfl, hbn⟩
           have HBN := Lib.hid hbn
           clear hbn)
        | (at_builtin
           refine wpList_append_none rfl (.tmp 30) (.tmp 31) _ (by rfl) 30 i0 Tryd.underlying28 hi0 ⟨w2.heap.size, 0, none⟩ 1 A c rfl ⟨_, _, _, rfl, Blk.new w2 30 #[.int .i64 0, .int .u64 2, .slice none 0 0, .slice none 0 0]⟩ (by rfl) (by rfl) ?_))
      go_meet
      exact ⟨_, 1, rfl, Nat.le_refl _, by decide, Lib.hid (all_items (b := w2.heap.size) (q := 2) (by omega) (vs := vs) (spare := []) HR.out (HB2.out _ (HBN.out.alloc HBN.out.size _)) (by
        obtain rfl : vs = [] := List.eq_nil_of_length_eq_zero (by rw [HVL.out]; rfl)
        exact Blk.new w2 30 _)), Lib.hid (HB2.out _ (HBN.out.alloc HBN.out.size _))⟩
    · have hvp : 0 < vs.length := by have := HVL.out; omega
      go_wp2_with (first
        | (go_at_call 48
           refine (CN.out _).mono ?_
           rintro e w2 ⟨rfl, hbn⟩
           have HBN := Lib.hid hbn
           clear hbn)
        | (at_builtin
           refine wpList_append_clip _ rfl (.tmp 30) (.tmp 31) _ (by rfl) 30 i0 _ 64 Tryd.underlying28 hi0 hz0 4 hz1 hz2 0 (w2.heap.size + 1) (some ⟨w2.heap.size, 0, none⟩) 1 [.int .i64 0, .int .u64 2, .slice none 0 0, .slice none 0 0] (by rfl) (by simp) rfl (Seg.of_blk (Blk.new w2 30 #[.int .i64 0, .int .u64 2, .slice none 0 0, .slice none 0 0]) (by simp)) 0 w.heap.size A l.length c vs (by rfl) hvp HVL.out (HSg.out.below (HB2.out _ (HBN.out.alloc HBN.out.size _))) (by unfold maxLen; omega) (by omega) ?_
           intro c' spare hc1 hc2))
      go_meet
      have HBX := Lib.hid (HB2.out _ ((HBN.out.alloc HBN.out.size (.cells #[.int .i64 0, .int .u64 2, .slice none 0 0, .slice none 0 0] 30)).drew.alloc (Nat.le_trans HBN.out.size (by simp)) (.cells ([Value.int .i64 0, .int .u64 2, .slice none 0 0, .slice none 0 0] ++ vs ++ spare).toArray 30)))
      exact ⟨_, c', by rw [Nat.add_comm 1], by omega, hc2, Lib.hid (all_items (q := 2) (by omega) HR.out HBX.out (blk_after w2 _ 30 _)), HBX⟩
  case rest =>
    obtain ⟨B, c', rfl, hc1, hc2, HI, HBc⟩ := hcut
    clear CN HSg HR HVL HK HB1 hc hm
    have hcm := hc2
    unfold maxLen at hcm
    have HSx := Lib.hid (CSe.out wc B c' HBc.out HI.out hc1 hc2)
    clear CSe HI
    go_wp2_with fail
    refine HSx.out.mono ?_
    rintro e w3 ⟨v3, rfl, HO, hb3⟩
    have HB3 := Lib.hid (below_next HBc.out HBc.out.size hb3)
    have hw3 : wc.heap.size ≤ w3.heap.size := hb3.size
    clear hb3 HSx
    rcases HSE.out with hE0 | hE3
    · rw [hE0]
      obtain ⟨g, rfl, hg1, hg2⟩ := HO.out.1 hE0
      have hst : ∃ (b0 : Int) (t : List Int), sealI (iN 2 :: l) 0 = withB (iN 2 :: l) (b0 :: t) ∧ (b0 :: t).length = 4 ∧ (∀ c, c ≠ b0 → openE (withB (iN 2 :: l) (c :: t)) 0 = 10) := sums_turned (q := 2) (by omega) hE0
      obtain ⟨b0, tl, hsI, htl, hop⟩ := hst
      rw [hsI] at hg2 ⊢
      have hlen : (withB (iN 2 :: l) (b0 :: tl)).sub.length = l.length + 1 + 1 := by
        show ((iN 2 :: l) ++ [Itm.mk 2 0 (b0 :: tl) []]).length = _
        simp
      rw [hlen]
      obtain ⟨vs0, spare, hblk, hlays⟩ := hg2
      obtain ⟨m, vs', cz, rfl, hl1, ⟨AB, A', rfl, -, -, hbt, -, hown, -, -⟩, hm1⟩ := Lays.last_ hlays
      rcases hown with hbad | ⟨gB, csB, rfl, hgB1, hgB2, hbB, hsB, hcB⟩
      · cases hbad
      have hbt : St.bts (b0 :: tl) := hbt
      have htl1 : tl.length + 1 = 4 := htl
      have hb0 : 0 ≤ b0 ∧ b0 ≤ 255 := hbt b0 (by simp)
      have hvl' : vs'.length = (l.length + 1) * 4 := hl1.reps.length
      have hgm := hl1.le
      have HBk := Lib.hid (show Blk w3 g 30 (vs' ++ [Value.int .i64 2, .int .u64 0, .slice (some ⟨gB, 0, none⟩) (tl.length + 1) (tl.length + 1), .slice A' 0 0] ++ spare).toArray from hblk)
      have HL1 := Lib.hid hl1
      have HBB := Lib.hid hbB
      have HCB := Lib.hid hcB
      have HSB := Lib.hid (show tl.length + 1 ≤ csB.size from hsB)
      have HOP := Lib.hid hop
      have HBT := Lib.hid hbt
      have HTL := Lib.hid htl1
      have hgl := HBk.out.lt
      generalize hN : l.length + 1 = N at *
      have r2 : w3.cell? ⟨g, N * 4 + 2, none⟩ = some (.slice (some ⟨gB, 0, none⟩) 4 4) := by
        rw [HBk.out.cell, htl1, ← hvl']
        simp
      have r3 : w3.cell? ⟨gB, 0, none⟩ = some (.int .u8 b0) := by
        rw [HBB.out.cell]
        exact hcB 0 (by show 0 < tl.length + 1; omega)
      have HN := Lib.hid hN
      have HB4 := Lib.hid (HB3.out.alloc HB3.out.size (.cells #[.int .i64 4, .int .u64 0, .slice none 0 0, .slice (some ⟨g, 0, none⟩) (N + 1) (N + 1)] 30))
      have hba : Below w3.heap.size w3 (w3.alloc (.cells #[.int .i64 4, .int .u64 0, .slice none 0 0, .slice (some ⟨g, 0, none⟩) (N + 1) (N + 1)] 30)) := (Below.refl _ _).alloc (Nat.le_refl _) _
      have HK4 := Lib.hid (Blk.new w3 30 #[.int .i64 4, .int .u64 0, .slice none 0 0, .slice (some ⟨g, 0, none⟩) (N + 1) (N + 1)])
      have s2 := (hba.cell (p := ⟨g, N * 4 + 2, none⟩) hgl).trans r2
      have s3 := (hba.cell (p := ⟨gB, 0, none⟩) hgB2).trans r3
      have HBk4 := Lib.hid (HBk.out.next hba)
      have HBB4 := Lib.hid (HBB.out.next hba)
      have HL4 := Lib.hid (HL1.out.below hba (Nat.le_trans hm1 (Nat.le_refl _)))
      have f3 := HBB4.out.frozen 0
      have hz4 : w3.heap.size < (w3.alloc (.cells #[.int .i64 4, .int .u64 0, .slice none 0 0, .slice (some ⟨g, 0, none⟩) (N + 1) (N + 1)] 30)).heap.size := by simp
      have j2 : (N : Int) < (N : Int) + 1 := by omega
      have j3 : decide (N + 1 ≤ N) = false := decide_eq_false (by omega)
      have j4 : (0 : Int) ≤ (N : Int) := by omega
      have hNm : N ≤ 101 := by omega
      clear HSL HO HB3 hE0 HSE hlays hsI hlen hblk hl1 hbB hcB hop hbt htl1 htl r2 r3 hba hvl' hsB HBk HL1 HBB hN
      go_upto_region 10 with (fail)
      generalize w3.alloc (.cells #[.int .i64 4, .int .u64 0, .slice none 0 0, .slice (some ⟨g, 0, none⟩) (N + 1) (N + 1)] 30) = w4 at *
      obtain ⟨⟨x0, x1, x2, x3⟩, -⟩ := cells_item HK4.out
      go_upto_region 13 with (fail)
      go_region
      obtain ⟨t1, t2, t3⟩ := turn_byte b0 by_ hb0.1 hb0.2 HBt.out.1 HBt.out.2
      generalize bits .xor .u8 b0 (bits .or .u8 by_ 1) = X at *
      have hwg : w.heap.size ≤ gB := by have := HBc.out.size; omega
      have HR9 : Hid (Row (w4.setCell ⟨gB, 0, none⟩ (.int .u8 X)).drew g (g + 1) (w4.setCell ⟨gB, 0, none⟩ (.int .u8 X)).drew.heap.size ((iN 2 :: l) ++ [.mk 2 0 (X :: tl) []])) := Lib.hid (by
        have h := row_turned (c := X) HBk4.out HL4.out hgB1 (Nat.lt_trans hgB2 hz4) HBB4.out HSB.out HCB.out (fun y hy => by
          rcases List.mem_cons.1 hy with rfl | hy
          · omega
          · exact HBT.out y (by simp [hy])) (by have := HTL.out; omega)
        obtain ⟨vs9, sp9, h1, h2⟩ := h
        exact ⟨vs9, sp9, h1, lays_up (h2.keep (w' := (w4.setCell ⟨gB, 0, none⟩ (.int .u8 X)).drew) fun _ _ _ => rfl) (by simp [World.setCell])⟩)
      have HK9 := Lib.hid ((HK4.out.far (p := ⟨gB, 0, none⟩) (by show w3.heap.size ≠ gB; omega) (.int .u8 X)).drew)
      have HB9 := Lib.hid ((HB4.out.setCell (p := ⟨gB, 0, none⟩) hwg (.int .u8 X)).drew)
      have HOPX := Lib.hid (HOP.out X t1)
      generalize (w4.setCell ⟨gB, 0, none⟩ (.int .u8 X)).drew = w9 at *
      have hll : ((iN 2 :: l) ++ [Itm.mk 2 0 (X :: tl) []]).length = N + 1 := by
        have := HN.out
        simp
        omega
      have HCO := Lib.hid (open_any (lst ((iN 2 :: l) ++ [.mk 2 0 (X :: tl) []])) (listV (some ⟨g, 0, none⟩) (N + 1) (N + 1)) 0 w9 (lst_items HR9.out rfl hll (by unfold maxLen; omega)) (by
        have h1 := enc_lst_len ((iN 2 :: l) ++ [.mk 2 0 (X :: tl) []])
        have h2 := encs_with_len (iN 2 :: l) (X :: tl)
        have h3 := HEd.out.1
        have h4 : (X :: tl).length = tl.length + 1 := rfl
        have h5 := HTL.out
        omega) (by
        have h1 : deep (lst ((iN 2 :: l) ++ [.mk 2 0 (X :: tl) []])) = 1 + deeps ((iN 2 :: l) ++ [.mk 2 0 (X :: tl) []]) := rfl
        have h2 : deeps ((iN 2 :: l) ++ [Itm.mk 2 0 (X :: tl) []]) = max (deeps (iN 2 :: l)) 1 := by rw [deeps_append]; rfl
        have h3 := HEd.out.2
        omega) (HTW.out w9 HB9.out).1 (HTW.out w9 HB9.out).2)
      have HAl := Lib.hid (fun (W : World) (h : Below w9.heap.size w9 W) => CAl.out W (below_next HB9.out HB9.out.size h))
      clear HB4 HK4 HBk4 HBB4 HL4 HOP HBT HTL HN HCB HSB HR9 s2 s3 f3 x0 x1 x2 x3 hb0 t1 t2 t3 HEd CAl HTW HBc
      go_upto_region 14 with (fail)
      obtain ⟨⟨x0, x1, x2, x3⟩, -⟩ := cells_item HK9.out
      go_wp2_with fail
      refine HCO.out.mono ?_
      rintro e w10 ⟨⟨AO, rfl, HIO⟩, hb10⟩
      rw [HOPX.out]
      have HB10 := Lib.hid hb10
      clear hb10 HCO HIO HOPX HK9 x0 x1 x2 x3
      generalize (openL (lst ((iN 2 :: l) ++ [.mk 2 0 (X :: tl) []])) 0).length = ol at *
      go_wp2_with fail
      refine (HAl.out _ HB10.out).mono ?_
      rintro e w11 ⟨rfl, hb11⟩
      have HB11 := Lib.hid (below_next HB9.out HB9.out.size (below_next HB10.out HB10.out.size hb11))
      clear hb11 HAl HB10 HB9
      go_wp2_with fail
      go_ret
      exact ⟨rfl, HB11.out⟩
    · rw [hE3]
      obtain rfl := HO.out.2 (by omega)
      have HB4 := Lib.hid (HB3.out.alloc HB3.out.size (.cells #[.int .i64 0, .int .u64 0, .slice none 0 0, .slice none 0 0] 30))
      have HA4 := Lib.hid (CAl.out _ HB4.out)
      clear HSL HO HB3 CAl hE3 HSE
      go_wp2_with fail
      refine HA4.out.mono ?_
      rintro e w5 ⟨rfl, hb5⟩
      have HB5 := Lib.hid (below_next HB4.out HB4.out.size hb5)
      clear hb5 HA4 HB4
      go_wp2_with fail
      go_ret
      exact ⟨rfl, HB5.out⟩
end Go.Proofs.YtbgcbcnidjlhnaaDoor.PrimarySums
