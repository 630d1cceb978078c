/- The contract of guess (layer 6). -/
import Derived.Test.YthknkdphofjmhaaDoorPrimG1
import Derived.Test.YthknkdphofjmhaaDoorIdRd
import Derived.Deep.RegionHeld3
import Derived.Deep.CutBlock
import Derived.Laws.EntriesVeiled
import Derived.IntWalk
namespace Go.Proofs.YthknkdphofjmhaaDoor.Prim
open Go.RowKit Wd Cb Eid EncB CbCopy CbList CbRight CbWrite CbLays

theorem find_len (l : List Itm) (k : Nat) : (enc (find l k)).length ≤ (encs l).length + 9 ∧ deep (find l k) ≤ deeps l + 1 := by
  unfold find
  by_cases h : k < l.length
  · rw [show l.getD k (iN 0) = l[k] by simp [List.getD, h]]
    have h1 := encs_snoc l k h
    have h2 := encs_take_le l (k + 1)
    have h3 := deep_at l k h
    rw [h1, List.length_append] at h2
    omega
  · rw [show l.getD k (iN 0) = iN 0 by simp [List.getD, List.getElem?_eq_none (show l.length ≤ k by omega)]]
    have := iN_len 0
    have h2 : deep (iN 0) = 1 := rfl
    omega
theorem field1 (k n : Int) (A : Option Addr) (b c : Nat) (A' : Option Addr) (b' c' : Nat) (w : World) : (Instr.field 26 (.agg #[.int .i64 k, .int .u64 n, .slice A b c, .slice A' b' c']) 1).run Tryd.prog w = .ok (.int .u64 n) w := by kernel_rfl
theorem cell_far {w a : World} {k : Nat} (h : ∀ p : Addr, p.block ≠ k → w.cell? p = a.cell? p) (o : Nat) (u : Value) : ∀ p : Addr, p.block ≠ k → (w.setCell ⟨k, o, none⟩ u).cell? p = a.cell? p :=
  fun p hp => (World.cell?_setCell_other w ⟨k, o, none⟩ p u (fun e => hp (by rw [← e]))).trans (h p hp)
theorem froz20 {w : World} {g : Nat} {t : TypeId} {cs : Array Value} (h : Blk w g t cs) : w.frozen? ⟨g, 0, none⟩ = false ∧ w.frozen? ⟨g, 1, none⟩ = false ∧ w.frozen? ⟨g, 2, none⟩ = false ∧ w.frozen? ⟨g, 3, none⟩ = false ∧ w.frozen? ⟨g, 4, none⟩ = false ∧ w.frozen? ⟨g, 5, none⟩ = false ∧ w.frozen? ⟨g, 6, none⟩ = false ∧ w.frozen? ⟨g, 7, none⟩ = false ∧ w.frozen? ⟨g, 8, none⟩ = false ∧ w.frozen? ⟨g, 9, none⟩ = false ∧ w.frozen? ⟨g, 10, none⟩ = false ∧ w.frozen? ⟨g, 11, none⟩ = false ∧ w.frozen? ⟨g, 12, none⟩ = false ∧ w.frozen? ⟨g, 13, none⟩ = false ∧ w.frozen? ⟨g, 14, none⟩ = false ∧ w.frozen? ⟨g, 15, none⟩ = false ∧ w.frozen? ⟨g, 16, none⟩ = false ∧ w.frozen? ⟨g, 17, none⟩ = false ∧ w.frozen? ⟨g, 18, none⟩ = false ∧ w.frozen? ⟨g, 19, none⟩ = false := ⟨h.frozen 0, h.frozen 1, h.frozen 2, h.frozen 3, h.frozen 4, h.frozen 5, h.frozen 6, h.frozen 7, h.frozen 8, h.frozen 9, h.frozen 10, h.frozen 11, h.frozen 12, h.frozen 13, h.frozen 14, h.frozen 15, h.frozen 16, h.frozen 17, h.frozen 18, h.frozen 19⟩
theorem below_setRow {B g : Nat} {a w : World} (h : Below B a w) (hg : B ≤ g) (cs : Array Value) : Below B a (w.setRow g cs) :=
  h.trans ⟨rfl, rfl, rfl, by simp, fun i hi => setRow_other _ _ _ _ (by omega)⟩
theorem blk_setRow {w : World} {g : Nat} {t : TypeId} {cs : Array Value} (h : Blk w g t cs) (cs' : Array Value) : Blk (w.setRow g cs') g t cs' := setRow_heap _ _ _ _ _ _ h
theorem blk_row_far {w : World} {g k : Nat} {t : TypeId} {cs : Array Value} (h : Blk w g t cs) (hn : g ≠ k) (cs' : Array Value) : Blk (w.setRow k cs') g t cs := (setRow_other _ _ _ _ hn).trans h
theorem blk_new1 (w : World) (o : Obj) (t : TypeId) (cs : Array Value) : Blk ((w.alloc o).alloc (.cells cs t)) (w.heap.size + 1) t cs := by
  have h := Blk.new (w.alloc o) t cs
  rwa [World.size_alloc] at h
set_option maxRecDepth 100000 in
set_option maxHeartbeats 8000000 in
theorem guess_any (l : List Itm) (A : Option Addr) (c : Nat) (w : World) (hi : ItemsV w 0 w.heap.size l A) (hc : l.length ≤ c) (hm : c ≤ maxLen) (hE : (encs l).length ≤ 900000000) (hd : deeps l ≤ 50000) (hn : 0 ≤ (find l 2).num ∧ (find l 2).num ≤ 1000) :
    Calls Tryd.prog 54 #[.slice A l.length c] w fun e w' => e = .returned (pguess l).val ∧ Below w.heap.size w w' := by
  have HB0 := Lib.hid (((Below.refl w.heap.size w).alloc (Nat.le_refl _) (.cells #[.slice A l.length c] 24)).alloc (by simp) (.cells #[.int .u64 0, .int .i64 0, .bool false, .int .u64 0, .int .u64 0, .string ⟨#[]⟩, .string ⟨#[]⟩, .bool false, .int .u64 0, .int .u64 0, .string ⟨#[]⟩, .string ⟨#[]⟩, .bool false, .int .u64 0, .int .u64 0, .string ⟨#[]⟩, .string ⟨#[]⟩, .int .u64 0, .int .u64 0, .int .u64 0] 70))
  have HK0 := Lib.hid ((Blk.new w 24 #[.slice A l.length c]).alloc (.cells #[.int .u64 0, .int .i64 0, .bool false, .int .u64 0, .int .u64 0, .string ⟨#[]⟩, .string ⟨#[]⟩, .bool false, .int .u64 0, .int .u64 0, .string ⟨#[]⟩, .string ⟨#[]⟩, .bool false, .int .u64 0, .int .u64 0, .string ⟨#[]⟩, .string ⟨#[]⟩, .int .u64 0, .int .u64 0, .int .u64 0] 70))
  have HP0 := Lib.hid (blk_new1 w (.cells #[.slice A l.length c] 24) 70 #[.int .u64 0, .int .i64 0, .bool false, .int .u64 0, .int .u64 0, .string ⟨#[]⟩, .string ⟨#[]⟩, .bool false, .int .u64 0, .int .u64 0, .string ⟨#[]⟩, .string ⟨#[]⟩, .bool false, .int .u64 0, .int .u64 0, .string ⟨#[]⟩, .string ⟨#[]⟩, .int .u64 0, .int .u64 0, .int .u64 0])
  have h41 := find_len l 4
  have h61 := find_len l 6
  have HPG := Lib.hid (show pguess l = ⟨(find l 1).num, (find l 2).num, rdI (find l 3), rdI (find l 5), irI (iL (find l 4) (find l 6)), (find l 7).num⟩ from rfl)
  go_enter Tryd.func54, Tryd.ntmps54
  go_upto_region 1 with (fail)
  generalize (w.alloc (.cells #[.slice A l.length c] 24)).alloc (.cells #[.int .u64 0, .int .i64 0, .bool false, .int .u64 0, .int .u64 0, .string ⟨#[]⟩, .string ⟨#[]⟩, .bool false, .int .u64 0, .int .u64 0, .string ⟨#[]⟩, .string ⟨#[]⟩, .bool false, .int .u64 0, .int .u64 0, .string ⟨#[]⟩, .string ⟨#[]⟩, .int .u64 0, .int .u64 0, .int .u64 0] 70) = w0 at *
  have HB1 := Lib.hid (HB0.out.alloc HB0.out.size (.cells #[F1 w.heap.size] 127))
  have HK1 := Lib.hid (HK0.out.alloc (.cells #[F1 w.heap.size] 127))
  have HP1 := Lib.hid (HP0.out.alloc (.cells #[F1 w.heap.size] 127))
  have HF1 := Lib.hid (Blk.new w0 127 #[F1 w.heap.size])
  have hz0 : w.heap.size + 1 < w0.heap.size := HP0.out.lt
  clear HB0 HK0 HP0
  go_upto_region 3 with (fail)
  generalize w0.alloc (.cells #[F1 w.heap.size] 127) = wq at *
  have hzc : w0.heap.size < wq.heap.size := HF1.out.lt
  have CF := Lib.hid (fun (k : Nat) (hk : k ≤ 100) (W : World) (h : Below wq.heap.size wq W) => find_any l A c w.heap.size k W ((hi.below (below_next HB1.out HB1.out.size h)).more (Nat.le_refl _) (below_next HB1.out HB1.out.size h).size) (by have := (HK1.out.next h).cell 0; simpa using this) (Nat.lt_of_lt_of_le HK1.out.lt h.size) hc hm hk)
  have CN := Lib.hid (fun (k : Nat) (hk : k ≤ 100) (W : World) (h : Below wq.heap.size wq W) => name_any l A c w.heap.size w0.heap.size k W ((hi.below (below_next HB1.out HB1.out.size h)).more (Nat.le_refl _) (below_next HB1.out HB1.out.size h).size) (by have := (HK1.out.next h).cell 0; simpa using this) (Nat.lt_of_lt_of_le HK1.out.lt h.size) hc hm hk (by have := (HF1.out.next h).cell 0; simpa using this) (Nat.lt_of_lt_of_le HF1.out.lt h.size))
  have KC := Lib.hid (fun (W : World) (h : Below wq.heap.size wq W) => show W.cell? ⟨w0.heap.size, 0, none⟩ = some (F1 w.heap.size) from by have := (HF1.out.next h).cell 0; simpa using this)
  have CF4 := Lib.hid (fun (W : World) (h : Below wq.heap.size wq W) => show Calls Tryd.prog 78 #[.int .i64 4, .pointer (some ⟨w.heap.size, 0, none⟩)] W (fun e w' => ∃ v, e = .returned v ∧ Hid (ItemV w' 0 w'.heap.size (find l 4) v) ∧ Below W.heap.size W w') from CF.out 4 (by omega) W h)
  have CF6 := Lib.hid (fun (W : World) (h : Below wq.heap.size wq W) => show Calls Tryd.prog 78 #[.int .i64 6, .pointer (some ⟨w.heap.size, 0, none⟩)] W (fun e w' => ∃ v, e = .returned v ∧ Hid (ItemV w' 0 w'.heap.size (find l 6) v) ∧ Below W.heap.size W w') from CF.out 6 (by omega) W h)
  have CL := Lib.hid (fun (g : Nat) (W WB : World) (ka na : Int) (Aa : Option Addr) (xa ya : Nat) (Ba : Option Addr) (ua wa : Nat) (kb nb : Int) (Ab : Option Addr) (xb yb : Nat) (Bb : Option Addr) (ub wb : Nat) (hb : Below WB.heap.size WB W) (ha : ItemV WB 0 WB.heap.size (find l 4) (.agg #[.int .i64 ka, .int .u64 na, .slice Aa xa ya, .slice Ba ua wa])) (hb2 : ItemV WB 0 WB.heap.size (find l 6) (.agg #[.int .i64 kb, .int .u64 nb, .slice Ab xb yb, .slice Bb ub wb])) (hk : Blk W g 26 #[.int .i64 ka, .int .u64 na, .slice Aa xa ya, .slice Ba ua wa, .int .i64 kb, .int .u64 nb, .slice Ab xb yb, .slice Bb ub wb]) =>
    show Calls Tryd.prog 33 #[.slice (some ⟨g, 0, none⟩) 2 2] W (fun e w' => ∃ A', e = .returned (listV A' 2 2) ∧ Hid (ItemV w' 0 w'.heap.size (iL (find l 4) (find l 6)) (listV A' 2 2)) ∧ Below W.heap.size W w') from by
    have h := list_any [find l 4, find l 6] (some ⟨g, 0, none⟩) W.heap.size 2 W (items2 ((ha.below hb).more (Nat.le_refl _) hb.size) ((hb2.below hb).more (Nat.le_refl _) hb.size) hk hk.lt) (Nat.le_refl _) (by simp) (by decide)
      (by have e1 := wide_enc (find l 4); have e2 := wide_enc (find l 6); simp only [wides]; omega) (by have e1 := size_enc (find l 4); have e2 := size_enc (find l 6); simp only [sizes]; omega) (by simp only [deeps]; omega)
    refine h.mono ?_
    rintro e w' ⟨A', rfl, HI, hb⟩
    exact ⟨A', rfl, Lib.hid (item_list (HI.out.more (Nat.zero_le _) (Nat.le_refl _)) rfl (by decide) (by decide)), hb⟩)
  have CR := Lib.hid (fun (W : World) (v : Value) (h : ItemV W 0 W.heap.size (iL (find l 4) (find l 6)) v) => iread_any (iL (find l 4) (find l 6)) v W h)
  generalize irI (iL (find l 4) (find l 6)) = IR at *
  generalize irE (iL (find l 4) (find l 6)) = IE at *
  obtain ⟨⟨ii, inn, iss, ih, idd⟩, it, iq⟩ := IR
  go_cut [5, 6] from 9 (fun p5 p6 wx => ∃ n5 : Nat, p5 = .pointer (some ⟨n5, 0, none⟩) ∧ p6 = .int .i64 IE ∧ wq.heap.size ≤ n5 ∧ Hid (Blk wx n5 68 #[.bool ii, .int .u64 inn, .int .u64 iss, .string ih, .string idd, .int .u64 it, .int .u64 iq]) ∧ Hid (Below wq.heap.size wq wx))
  case first =>
    clear CN HPG
    have k0 := KC.out _ (Below.refl _ _)
    go_region_held3 (fun w' => w'.cell? ⟨w0.heap.size, 0, none⟩ = some (F1 w.heap.size))
      (exact KC.out _ (by repeat' (first | with_reducible exact HBD.out | with_reducible exact HBC.out | with_reducible exact HBB.out | with_reducible exact HBA.out | with_reducible exact Below.refl _ _ | with_reducible refine bel_drew ?_ | with_reducible refine bel_alloc ?_ _ | with_reducible refine bel_set ?_ ?_ _ | exact Nat.le_refl _ | exact hsC | exact hsB | exact hsA | exact Nat.le_succ_of_le hsB | fail)))
      (first | (go_at_call 78; (with_reducible refine (CF4.out _ (by repeat' (first | with_reducible exact HBA.out | with_reducible exact Below.refl _ _ | with_reducible refine bel_drew ?_ | with_reducible refine bel_alloc ?_ _ | fail))).mono ?_); rintro e wA ⟨v4, rfl, HI4, hbA⟩; obtain ⟨ka, na, Aa, xa, ya, Ba, ua, wa, rfl⟩ := v4_of HI4.out; have HBA := Lib.hid (bel_call (a := wq) (by repeat' (first | with_reducible exact HBZ.out | with_reducible exact Below.refl _ _ | with_reducible refine bel_drew ?_ | with_reducible refine bel_alloc ?_ _ | fail)) hbA); have hsA := HBA.out.size; (try (first | (with_reducible have K5 := Lib.hid (Blk.next (Blk.new wq 68 #[.bool false, .int .u64 0, .int .u64 0, .string ⟨#[]⟩, .string ⟨#[]⟩, .int .u64 0, .int .u64 0]).drew hbA)) | fail)); clear hbA) | (go_at_call 78; (with_reducible refine (CF6.out _ (by repeat' (first | with_reducible exact HBA.out | with_reducible exact Below.refl _ _ | with_reducible refine bel_drew ?_ | with_reducible refine bel_alloc ?_ _ | fail))).mono ?_); rintro e wB ⟨v6, rfl, HI6, hbB⟩; obtain ⟨kb, nb, Ab, xb, yb, Bb, ub, wb, rfl⟩ := v4_of HI6.out; have HBB := Lib.hid (bel_call (a := wq) (by repeat' (first | with_reducible exact HBA.out | with_reducible exact Below.refl _ _ | with_reducible refine bel_drew ?_ | with_reducible refine bel_alloc ?_ _ | fail)) hbB); have HAB := Lib.hid (bel_call (a := wA) (by repeat' (first | with_reducible exact HBZ.out | with_reducible exact Below.refl _ _ | with_reducible refine bel_drew ?_ | with_reducible refine bel_alloc ?_ _ | fail)) hbB); have hsB := HBB.out.size; have HI4B := Lib.hid ((HI4.out.below HAB.out).more (Nat.le_refl _) HAB.out.size); (try (first | (with_reducible have K5 := Lib.hid (Blk.next K5.out hbB)) | (with_reducible have K5 := Lib.hid (Blk.next (Blk.new wA 68 #[.bool false, .int .u64 0, .int .u64 0, .string ⟨#[]⟩, .string ⟨#[]⟩, .int .u64 0, .int .u64 0]) hbB)) | fail)); clear hbB) | (go_at_call 33; (refine (CL.out _ _ wB _ _ _ _ _ _ _ _ _ _ _ _ _ _ _ _ (by repeat' (first | with_reducible exact HBZ.out | with_reducible exact Below.refl _ _ | with_reducible refine bel_drew ?_ | with_reducible refine bel_alloc ?_ _ | fail)) HI4B.out HI6.out (by first | with_reducible exact Blk.new _ _ _ | with_reducible exact (Blk.new _ _ _).alloc _ | with_reducible exact blk_new1 _ _ _ _ | fail)).mono ?_); rintro e wC ⟨AL, rfl, HIL, hbC⟩; have HBC := Lib.hid (bel_call (a := wq) (by repeat' (first | with_reducible exact HBB.out | with_reducible exact Below.refl _ _ | with_reducible refine bel_drew ?_ | with_reducible refine bel_alloc ?_ _ | fail)) hbC); have hsC := HBC.out.size; (try (first | (with_reducible have K5 := Lib.hid (Blk.next (K5.out.alloc _) hbC)) | (with_reducible have K5 := Lib.hid (Blk.next ((Blk.new wB 68 #[.bool false, .int .u64 0, .int .u64 0, .string ⟨#[]⟩, .string ⟨#[]⟩, .int .u64 0, .int .u64 0]).alloc _) hbC)) | (with_reducible have K5 := Lib.hid (Blk.next (blk_new1 wB _ 68 #[.bool false, .int .u64 0, .int .u64 0, .string ⟨#[]⟩, .string ⟨#[]⟩, .int .u64 0, .int .u64 0]) hbC)) | fail)); clear hbC) | (go_at_call 80; (first | (refine (CR.out _ _ HIL.out).mono ?_) | (refine (CR.out _ _ ((HIL.out.alloc (Nat.le_refl _) _).more (Nat.le_refl _) (by simp))).mono ?_)); rintro e wD ⟨rfl, hbD⟩; have HBD := Lib.hid (bel_call (a := wq) (by repeat' (first | with_reducible exact HBC.out | with_reducible exact Below.refl _ _ | with_reducible refine bel_drew ?_ | with_reducible refine bel_alloc ?_ _ | fail)) hbD); (try (first | (with_reducible have K5 := Lib.hid (Blk.next K5.out hbD)) | (with_reducible have K5 := Lib.hid (Blk.next (Blk.new wC 68 #[.bool false, .int .u64 0, .int .u64 0, .string ⟨#[]⟩, .string ⟨#[]⟩, .int .u64 0, .int .u64 0]) hbD)) | fail)); (try (first | (have hk5 := And.intro (cells7 K5.out) (froz7 K5.out); obtain ⟨⟨y0, y1, y2, y3, y4, y5, y6⟩, t0, t1, t2, t3, t4, t5, t6⟩ := hk5) | fail)); clear hbD) | fail)
    all_goals
      go_wp2_with fail
      go_meet
      first
        | exact ⟨_, rfl, rfl, HBD.out.size, Lib.hid (Blk.new _ _ _), Lib.hid (HBD.out.alloc HBD.out.size _)⟩
        | exact ⟨_, rfl, rfl, hsC, Lib.hid (set7_blk K5.out _ _ _ _ _ _ _), Lib.hid (set7_below HBD.out hsC _ _ _ _ _ _ _)⟩
        | exact ⟨_, rfl, rfl, Nat.le_succ_of_le hsB, Lib.hid (set7_blk K5.out _ _ _ _ _ _ _), Lib.hid (set7_below HBD.out (Nat.le_succ_of_le hsB) _ _ _ _ _ _ _)⟩
        | exact ⟨_, rfl, rfl, hsB, Lib.hid (set7_blk K5.out _ _ _ _ _ _ _), Lib.hid (set7_below HBD.out hsB _ _ _ _ _ _ _)⟩
        | exact ⟨_, rfl, rfl, hsA, Lib.hid (set7_blk K5.out _ _ _ _ _ _ _), Lib.hid (set7_below HBD.out hsA _ _ _ _ _ _ _)⟩
        | exact ⟨_, rfl, rfl, Nat.le_refl _, Lib.hid (set7_blk K5.out _ _ _ _ _ _ _), Lib.hid (set7_below HBD.out (Nat.le_refl _) _ _ _ _ _ _ _)⟩
  case rest =>
    obtain ⟨n5, rfl, rfl, hn5, HI5, HBr⟩ := hcut
    have HBw := Lib.hid (below_next HB1.out HB1.out.size HBr.out)
    have HPc := Lib.hid ((HP1.out).next HBr.out)
    have hzr : wq.heap.size ≤ wc.heap.size := HBr.out.size
    have hne : n5 ≠ w.heap.size + 1 := by omega
    have hne2 : w0.heap.size ≠ w.heap.size + 1 := by omega
    have CG := Lib.hid (fun (k : Nat) (hk : k ≤ 100) (W : World) (h : Below wc.heap.size wc W) => show Calls Tryd.prog 78 #[.int .i64 k, .pointer (some ⟨w.heap.size, 0, none⟩)] W (fun e w' => ∃ kk A b c A' b' c', e = .returned (.agg #[.int .i64 kk, .int .u64 (find l k).num, .slice A b c, .slice A' b' c']) ∧ Below W.heap.size W w') from by
      refine (CF.out k hk W (below_next HBr.out HBr.out.size h)).mono ?_
      rintro e w' ⟨v, rfl, HI, hb⟩
      obtain ⟨_, _, _, _, rfl, _⟩ := HI.out.open_
      exact ⟨_, _, _, _, _, _, _, rfl, hb⟩)
    have G1 := Lib.hid (fun (W : World) (h : Below wc.heap.size wc W) => show Calls Tryd.prog 78 #[.int .i64 1, .pointer (some ⟨w.heap.size, 0, none⟩)] W (fun e w' => ∃ kk A b c A' b' c', e = .returned (.agg #[.int .i64 kk, .int .u64 (find l 1).num, .slice A b c, .slice A' b' c']) ∧ Below W.heap.size W w') from CG.out 1 (by omega) W h)
    have G2 := Lib.hid (fun (W : World) (h : Below wc.heap.size wc W) => show Calls Tryd.prog 78 #[.int .i64 2, .pointer (some ⟨w.heap.size, 0, none⟩)] W (fun e w' => ∃ kk A b c A' b' c', e = .returned (.agg #[.int .i64 kk, .int .u64 (find l 2).num, .slice A b c, .slice A' b' c']) ∧ Below W.heap.size W w') from CG.out 2 (by omega) W h)
    have G7 := Lib.hid (fun (W : World) (h : Below wc.heap.size wc W) => show Calls Tryd.prog 78 #[.int .i64 7, .pointer (some ⟨w.heap.size, 0, none⟩)] W (fun e w' => ∃ kk A b c A' b' c', e = .returned (.agg #[.int .i64 kk, .int .u64 (find l 7).num, .slice A b c, .slice A' b' c']) ∧ Below W.heap.size W w') from CG.out 7 (by omega) W h)
    have N3 := Lib.hid (fun (W : World) (h : Below wc.heap.size wc W) => show Calls Tryd.prog 79 #[.int .i64 3, .pointer (some ⟨w0.heap.size, 0, none⟩)] W (fun e w' => e = .returned (rdI (find l 3)).val ∧ Below W.heap.size W w') from CN.out 3 (by omega) W (below_next HBr.out HBr.out.size h))
    have N5 := Lib.hid (fun (W : World) (h : Below wc.heap.size wc W) => show Calls Tryd.prog 79 #[.int .i64 5, .pointer (some ⟨w0.heap.size, 0, none⟩)] W (fun e w' => e = .returned (rdI (find l 5)).val ∧ Below W.heap.size W w') from CN.out 5 (by omega) W (below_next HBr.out HBr.out.size h))
    have KS := Lib.hid (fun (W : World) (h : Below wc.heap.size wc W) => show W.cell? ⟨w0.heap.size, 0, none⟩ = some (F1 w.heap.size) ∧ W.cell? ⟨n5, 0, none⟩ = some (.bool ii) ∧ W.cell? ⟨n5, 1, none⟩ = some (.int .u64 inn) ∧ W.cell? ⟨n5, 2, none⟩ = some (.int .u64 iss) ∧ W.cell? ⟨n5, 3, none⟩ = some (.string ih) ∧ W.cell? ⟨n5, 4, none⟩ = some (.string idd) ∧ W.cell? ⟨n5, 5, none⟩ = some (.int .u64 it) ∧ W.cell? ⟨n5, 6, none⟩ = some (.int .u64 iq) from And.intro (KC.out W (below_next HBr.out HBr.out.size h)) (cells7 (HI5.out.next h)))
    have KX := Lib.hid (fun (W W' : World) (h : Below wc.heap.size wc W) (hf : ∀ p : Addr, p.block ≠ w.heap.size + 1 → W'.cell? p = W.cell? p) => show W'.cell? ⟨w0.heap.size, 0, none⟩ = some (F1 w.heap.size) ∧ W'.cell? ⟨n5, 0, none⟩ = some (.bool ii) ∧ W'.cell? ⟨n5, 1, none⟩ = some (.int .u64 inn) ∧ W'.cell? ⟨n5, 2, none⟩ = some (.int .u64 iss) ∧ W'.cell? ⟨n5, 3, none⟩ = some (.string ih) ∧ W'.cell? ⟨n5, 4, none⟩ = some (.string idd) ∧ W'.cell? ⟨n5, 5, none⟩ = some (.int .u64 it) ∧ W'.cell? ⟨n5, 6, none⟩ = some (.int .u64 iq) from
      have g := KS.out W h
      And.intro ((hf ⟨w0.heap.size, 0, none⟩ hne2).trans g.1) (And.intro ((hf ⟨n5, 0, none⟩ hne).trans g.2.1) (And.intro ((hf ⟨n5, 1, none⟩ hne).trans g.2.2.1) (And.intro ((hf ⟨n5, 2, none⟩ hne).trans g.2.2.2.1) (And.intro ((hf ⟨n5, 3, none⟩ hne).trans g.2.2.2.2.1) (And.intro ((hf ⟨n5, 4, none⟩ hne).trans g.2.2.2.2.2.1) (And.intro ((hf ⟨n5, 5, none⟩ hne).trans g.2.2.2.2.2.2.1) ((hf ⟨n5, 6, none⟩ hne).trans g.2.2.2.2.2.2.2))))))))
    clear CF CN CL CR CF4 CF6 HI5 HK1 HF1 HB1 HP1 HBr hi h41 h61 hE hd hc hm CG KC
    generalize (find l 1).num = m1 at *
    generalize (find l 2).num = m2 at *
    generalize (find l 7).num = m7 at *
    generalize rdI (find l 3) = R3 at *
    generalize rdI (find l 5) = R5 at *
    obtain ⟨di, dn, ds, dh, dd⟩ := R3
    obtain ⟨ri, rn, rs, rh, rd⟩ := R5
    have hw2 : IntKind.i64.wrap m2 = m2 := IntWalk.i64_in _ (by omega)
    have HBd := Lib.hid ((Below.refl wc.heap.size wc).drew)
    have KP := Lib.hid (fun (W : World) (h : Below wc.heap.size wc W) => HPc.out.next h)
    clear HPc
    have hfd := field1
    go_wp2_with fail
    refine wp_region_held_drew (S := (fun w' => w'.cell? ⟨w0.heap.size, 0, none⟩ = some (F1 w.heap.size) ∧ w'.cell? ⟨n5, 0, none⟩ = some (.bool ii) ∧ w'.cell? ⟨n5, 1, none⟩ = some (.int .u64 inn) ∧ w'.cell? ⟨n5, 2, none⟩ = some (.int .u64 iss) ∧ w'.cell? ⟨n5, 3, none⟩ = some (.string ih) ∧ w'.cell? ⟨n5, 4, none⟩ = some (.string idd) ∧ w'.cell? ⟨n5, 5, none⟩ = some (.int .u64 it) ∧ w'.cell? ⟨n5, 6, none⟩ = some (.int .u64 iq))) (by kernel_rfl) (KS.out _ HBd.out) (fun hHeld => ?_)
    first
    | (refine wpAnyH_take (i := 0) (oi := ({ dst := some 19, op := Op.load 127 (Operand.tmp 3), type := 127, pos := "primary.go:93", after := #[], guard := none })) (v := ?_) rfl (by kernel_rfl) (by kernel_rfl) (by kernel_rfl) (fun _ _ _ h => h) (Or.inl ⟨by rfl, ?_⟩) hHeld ?_
       rotate_left
       · intro w hSw
         (try dsimp only at hSw)
         go_simp
         try with_reducible rfl
       try simp only [Act.put, List.setIfInBounds_toArray, List.set_cons_zero, List.set_cons_succ])
    | fail
    first
    | (refine wpAnyH_take (i := 3) (oi := ({ dst := some 22, op := Op.load 127 (Operand.tmp 3), type := 127, pos := "primary.go:93", after := #[], guard := none })) (v := ?_) rfl (by kernel_rfl) (by kernel_rfl) (by kernel_rfl) (fun _ _ _ h => h) (Or.inl ⟨by rfl, ?_⟩) hHeld ?_
       rotate_left
       · intro w hSw
         (try dsimp only at hSw)
         go_simp
         try with_reducible rfl
       try simp only [Act.put, List.setIfInBounds_toArray, List.set_cons_zero, List.set_cons_succ])
    | fail
    first
    | (refine wpAnyH_take (i := 7) (oi := ({ dst := some 26, op := Op.move (Operand.tmp 4), type := 128, pos := "primary.go:93", after := #[], guard := none })) (v := ?_) rfl (by kernel_rfl) (by kernel_rfl) (by kernel_rfl) (fun _ _ _ h => h) (Or.inl ⟨by rfl, ?_⟩) hHeld ?_
       rotate_left
       · intro w hSw
         (try dsimp only at hSw)
         go_simp
         try with_reducible rfl
       try simp only [Act.put, List.setIfInBounds_toArray, List.set_cons_zero, List.set_cons_succ])
    | fail
    first
    | (refine wpAnyH_take (i := 9) (oi := ({ dst := some 28, op := Op.move (Operand.tmp 4), type := 128, pos := "primary.go:93", after := #[], guard := none })) (v := ?_) rfl (by kernel_rfl) (by kernel_rfl) (by kernel_rfl) (fun _ _ _ h => h) (Or.inl ⟨by rfl, ?_⟩) hHeld ?_
       rotate_left
       · intro w hSw
         (try dsimp only at hSw)
         go_simp
         try with_reducible rfl
       try simp only [Act.put, List.setIfInBounds_toArray, List.set_cons_zero, List.set_cons_succ])
    | fail
    first
    | (refine wpAnyH_take (i := 11) (oi := ({ dst := some 30, op := Op.load 68 (Operand.tmp 5), type := 68, pos := "primary.go:93", after := #[], guard := none })) (v := ?_) rfl (by kernel_rfl) (by kernel_rfl) (by kernel_rfl) (fun _ _ _ h => h) (Or.inl ⟨by rfl, ?_⟩) hHeld ?_
       rotate_left
       · intro w hSw
         (try dsimp only at hSw)
         go_simp
         try with_reducible rfl
       try simp only [Act.put, List.setIfInBounds_toArray, List.set_cons_zero, List.set_cons_succ])
    | fail
    first
    | (refine wpAnyH_take (i := 12) (oi := ({ dst := some 31, op := Op.load 127 (Operand.tmp 3), type := 127, pos := "primary.go:93", after := #[], guard := none })) (v := ?_) rfl (by kernel_rfl) (by kernel_rfl) (by kernel_rfl) (fun _ _ _ h => h) (Or.inl ⟨by rfl, ?_⟩) hHeld ?_
       rotate_left
       · intro w hSw
         (try dsimp only at hSw)
         go_simp
         try with_reducible rfl
       try simp only [Act.put, List.setIfInBounds_toArray, List.set_cons_zero, List.set_cons_succ])
    | fail
    refine wpAnyH_ready (rs := [1]) (by kernel_rfl) (by simp) ?_
    refine AllReadyH.cons (o := ({ dst := some 20, op := Op.call { callee := Callee.value (Operand.tmp 19), args := #[Operand.const (Value.int IntKind.i64 1)], argTypes := #[3] }, type := 26, pos := "primary.go:94", after := #[{ on := 0, ground := Ground.data }], guard := none })) rfl (fun K hK => ?_) AllReadyH.nil
    go_simp
    (with_reducible refine (G1.out _ HBd.out).mono ?_)
    rintro e wA ⟨k1, A1, b1, c1, A1', b1', c1', rfl, hbA⟩
    have HBA := Lib.hid (below_next HBd.out HBd.out.size hbA)
    clear hbA
    refine hK.out _ _ ?_ (fun hHeld2 => ?_)
    · (try dsimp only)
      exact KS.out _ HBA.out
    clear hK K hHeld
    rename _ => hHeld
    try simp only [Act.put, List.setIfInBounds_toArray, List.set_cons_zero, List.set_cons_succ]
    first
    | (refine wpAnyH_take (i := 2) (oi := ({ dst := some 21, op := Op.field 26 (Operand.tmp 20) 1, type := 22, pos := "primary.go:93", after := #[{ on := 1, ground := Ground.data }], guard := none })) (v := ?_) rfl (by kernel_rfl) (by kernel_rfl) (by kernel_rfl) (fun _ _ _ h => h) (Or.inl ⟨by rfl, ?_⟩) hHeld ?_
       rotate_left
       · intro w hSw
         (try dsimp only at hSw)
         go_simp
         try with_reducible rfl
       try simp only [Act.put, List.setIfInBounds_toArray, List.set_cons_zero, List.set_cons_succ])
    | fail
    refine wpAnyH_ready (rs := [4]) (by kernel_rfl) (by simp) ?_
    refine AllReadyH.cons (o := ({ dst := some 23, op := Op.call { callee := Callee.value (Operand.tmp 22), args := #[Operand.const (Value.int IntKind.i64 2)], argTypes := #[3] }, type := 26, pos := "primary.go:95", after := #[{ on := 3, ground := Ground.data }, { on := 1, ground := Ground.chain }], guard := none })) rfl (fun K hK => ?_) AllReadyH.nil
    go_simp
    (with_reducible refine (G2.out _ HBA.out).mono ?_)
    rintro e wB ⟨k2, A2, b2, c2, A2', b2', c2', rfl, hbB⟩
    have HBB := Lib.hid (below_next HBA.out HBA.out.size hbB)
    clear hbB
    refine hK.out _ _ ?_ (fun hHeld2 => ?_)
    · (try dsimp only)
      exact KS.out _ HBB.out
    clear hK K hHeld
    rename _ => hHeld
    try simp only [Act.put, List.setIfInBounds_toArray, List.set_cons_zero, List.set_cons_succ]
    first
    | (refine wpAnyH_take (i := 5) (oi := ({ dst := some 24, op := Op.field 26 (Operand.tmp 23) 1, type := 22, pos := "primary.go:93", after := #[{ on := 4, ground := Ground.data }], guard := none })) (v := ?_) rfl (by kernel_rfl) (by kernel_rfl) (by kernel_rfl) (fun _ _ _ h => h) (Or.inl ⟨by rfl, ?_⟩) hHeld ?_
       rotate_left
       · intro w hSw
         (try dsimp only at hSw)
         go_simp
         try with_reducible rfl
       try simp only [Act.put, List.setIfInBounds_toArray, List.set_cons_zero, List.set_cons_succ])
    | fail
    first
    | (refine wpAnyH_take (i := 6) (oi := ({ dst := some 25, op := Op.convert 22 3 (Operand.tmp 24), type := 3, pos := "primary.go:93", after := #[{ on := 5, ground := Ground.data }], guard := none })) (v := ?_) rfl (by kernel_rfl) (by kernel_rfl) (by kernel_rfl) (fun _ _ _ h => h) (Or.inl ⟨by rfl, ?_⟩) hHeld ?_
       rotate_left
       · intro w hSw
         (try dsimp only at hSw)
         go_simp
         try with_reducible rfl
       try simp only [Act.put, List.setIfInBounds_toArray, List.set_cons_zero, List.set_cons_succ])
    | fail
    refine wpAnyH_ready (rs := [8]) (by kernel_rfl) (by simp) ?_
    refine AllReadyH.cons (o := ({ dst := some 27, op := Op.call { callee := Callee.value (Operand.tmp 26), args := #[Operand.const (Value.int IntKind.i64 3)], argTypes := #[3] }, type := 48, pos := "primary.go:96", after := #[{ on := 7, ground := Ground.data }, { on := 4, ground := Ground.chain }], guard := none })) rfl (fun K hK => ?_) AllReadyH.nil
    go_simp
    (with_reducible refine (N3.out _ HBB.out).mono ?_)
    rintro e wC ⟨rfl, hbC⟩
    have HBC := Lib.hid (below_next HBB.out HBB.out.size hbC)
    clear hbC
    refine hK.out _ _ ?_ (fun hHeld2 => ?_)
    · (try dsimp only)
      exact KS.out _ HBC.out
    clear hK K hHeld
    rename _ => hHeld
    try simp only [Act.put, List.setIfInBounds_toArray, List.set_cons_zero, List.set_cons_succ]
    refine wpAnyH_ready (rs := [10]) (by kernel_rfl) (by simp) ?_
    refine AllReadyH.cons (o := ({ dst := some 29, op := Op.call { callee := Callee.value (Operand.tmp 28), args := #[Operand.const (Value.int IntKind.i64 5)], argTypes := #[3] }, type := 48, pos := "primary.go:97", after := #[{ on := 9, ground := Ground.data }, { on := 8, ground := Ground.chain }], guard := none })) rfl (fun K hK => ?_) AllReadyH.nil
    go_simp
    (with_reducible refine (N5.out _ HBC.out).mono ?_)
    rintro e wD ⟨rfl, hbD⟩
    have HBD := Lib.hid (below_next HBC.out HBC.out.size hbD)
    clear hbD
    refine hK.out _ _ ?_ (fun hHeld2 => ?_)
    · (try dsimp only)
      exact KS.out _ HBD.out
    clear hK K hHeld
    rename _ => hHeld
    try simp only [Act.put, List.setIfInBounds_toArray, List.set_cons_zero, List.set_cons_succ]
    refine wpAnyH_ready (rs := [13]) (by kernel_rfl) (by simp) ?_
    refine AllReadyH.cons (o := ({ dst := some 32, op := Op.call { callee := Callee.value (Operand.tmp 31), args := #[Operand.const (Value.int IntKind.i64 7)], argTypes := #[3] }, type := 26, pos := "primary.go:99", after := #[{ on := 12, ground := Ground.data }, { on := 10, ground := Ground.chain }], guard := none })) rfl (fun K hK => ?_) AllReadyH.nil
    go_simp
    (with_reducible refine (G7.out _ HBD.out).mono ?_)
    rintro e wE ⟨k7, A7, b7, c7, A7', b7', c7', rfl, hbE⟩
    have HBE := Lib.hid (below_next HBD.out HBD.out.size hbE)
    clear hbE
    refine hK.out _ _ ?_ (fun hHeld2 => ?_)
    · (try dsimp only)
      exact KS.out _ HBE.out
    clear hK K hHeld
    rename _ => hHeld
    try simp only [Act.put, List.setIfInBounds_toArray, List.set_cons_zero, List.set_cons_succ]
    first
    | (refine wpAnyH_take (i := 14) (oi := ({ dst := some 33, op := Op.field 26 (Operand.tmp 32) 1, type := 22, pos := "primary.go:93", after := #[{ on := 13, ground := Ground.data }], guard := none })) (v := ?_) rfl (by kernel_rfl) (by kernel_rfl) (by kernel_rfl) (fun _ _ _ h => h) (Or.inl ⟨by rfl, ?_⟩) hHeld ?_
       rotate_left
       · intro w hSw
         (try dsimp only at hSw)
         go_simp
         try with_reducible rfl
       try simp only [Act.put, List.setIfInBounds_toArray, List.set_cons_zero, List.set_cons_succ])
    | fail
    first
    | (refine wpAnyH_take (i := 15) (oi := ({ dst := some 34, op := Op.build 70 #[(0, Operand.tmp 21), (1, Operand.tmp 25), (2, Operand.tmp 27), (3, Operand.tmp 29), (4, Operand.tmp 30), (5, Operand.tmp 33)], type := 70, pos := "primary.go:93", after := #[{ on := 2, ground := Ground.data }, { on := 6, ground := Ground.data }, { on := 8, ground := Ground.data }, { on := 10, ground := Ground.data }, { on := 11, ground := Ground.data }, { on := 14, ground := Ground.data }], guard := none })) (v := ?_) rfl (by kernel_rfl) (by kernel_rfl) (by kernel_rfl) (fun _ _ _ h => h) (Or.inl ⟨by rfl, ?_⟩) hHeld ?_
       rotate_left
       · intro w hSw
         (try dsimp only at hSw)
         go_simp
         try with_reducible rfl
       try simp only [Act.put, List.setIfInBounds_toArray, List.set_cons_zero, List.set_cons_succ])
    | fail
    refine wpAnyH_ready (rs := [16]) (by kernel_rfl) (by simp) ?_
    refine AllReadyH.cons (o := ({ dst := none, op := Op.store 70 (Operand.tmp 2) (Operand.tmp 34), type := 0, pos := "primary.go:93", after := #[{ on := 15, ground := Ground.data }, { on := 13, ground := Ground.chain }, { on := 0, ground := Ground.phase }, { on := 1, ground := Ground.phase }, { on := 2, ground := Ground.phase }, { on := 3, ground := Ground.phase }, { on := 4, ground := Ground.phase }, { on := 5, ground := Ground.phase }, { on := 6, ground := Ground.phase }, { on := 7, ground := Ground.phase }, { on := 8, ground := Ground.phase }, { on := 9, ground := Ground.phase }, { on := 10, ground := Ground.phase }, { on := 11, ground := Ground.phase }, { on := 12, ground := Ground.phase }, { on := 13, ground := Ground.phase }, { on := 14, ground := Ground.phase }, { on := 15, ground := Ground.phase }], guard := none })) rfl (fun K hK => ?_) AllReadyH.nil
    have HPE := Lib.hid (KP.out _ HBE.out)
    refine wp_store_row 70 (.tmp 2) (.tmp 34) rfl (w.heap.size + 1) _ rfl rfl 70 _ HPE.out info20 rfl (by first | rfl | simp [Value.oneCell']) ?_
    refine hK.out _ _ ?_ (fun hHeld2 => ?_)
    · (try dsimp only)
      exact KX.out wE _ HBE.out (fun p hp => World.cell?_of_block (setRow_other _ _ _ _ hp))
    clear hK K hHeld
    rename _ => hHeld
    try simp only [Act.put, List.setIfInBounds_toArray, List.set_cons_zero, List.set_cons_succ]
    refine wpAnyH_done (by kernel_rfl) ?_ _
    have HPE := Lib.hid (KP.out _ HBE.out)
    have HK9 := Lib.hid (blk_setRow HPE.out #[.int .u64 m1, .int .i64 m2, .bool di, .int .u64 dn, .int .u64 ds, .string dh, .string dd, .bool ri, .int .u64 rn, .int .u64 rs, .string rh, .string rd, .bool ii, .int .u64 inn, .int .u64 iss, .string ih, .string idd, .int .u64 it, .int .u64 iq, .int .u64 m7])
    have HB9 := Lib.hid (below_setRow (below_next HBw.out HBw.out.size HBE.out) (Nat.le_succ _) #[.int .u64 m1, .int .i64 m2, .bool di, .int .u64 dn, .int .u64 ds, .string dh, .string dd, .bool ri, .int .u64 rn, .int .u64 rs, .string rh, .string rd, .bool ii, .int .u64 inn, .int .u64 iss, .string ih, .string idd, .int .u64 it, .int .u64 iq, .int .u64 m7])
    generalize wE.setRow (w.heap.size + 1) #[.int .u64 m1, .int .i64 m2, .bool di, .int .u64 dn, .int .u64 ds, .string dh, .string dd, .bool ri, .int .u64 rn, .int .u64 rs, .string rh, .string rd, .bool ii, .int .u64 inn, .int .u64 iss, .string ih, .string idd, .int .u64 it, .int .u64 iq, .int .u64 m7] = W9 at *
    clear KX KS KP HPE HBd HBA HBB HBC HBD HBE
    go_wp2_with fail
    exact bodyPost_ret (v := .agg #[.int .u64 m1, .int .i64 m2, .bool di, .int .u64 dn, .int .u64 ds, .string dh, .string dd, .bool ri, .int .u64 rn, .int .u64 rs, .string rh, .string rd, .bool ii, .int .u64 inn, .int .u64 iss, .string ih, .string idd, .int .u64 it, .int .u64 iq, .int .u64 m7]) (results_cell_row rfl _ _ (w.heap.size + 1) _ _ (0, 0) _ rfl HK9.out Tryd.underlying70 rfl info20) rfl ⟨by rw [HPG.out], HB9.out⟩
end Go.Proofs.YthknkdphofjmhaaDoor.Prim
