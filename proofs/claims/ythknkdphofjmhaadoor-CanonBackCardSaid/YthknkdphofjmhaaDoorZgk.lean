/- Texts of my own, laid together: CanRt, CanMd, CanOf, CanSa. -/
import Derived.Test.YthknkdphofjmhaaDoorZgj
import Derived.Test.YthknkdphofjmhaaDoorZge
import Derived.Test.YthknkdphofjmhaaDoorEidW
import Derived.Test.YthknkdphofjmhaaDoorCbWrite
import Derived.Deep.RegionHeld3
/- Which blocks may be: the contracts of rightData and Right. -/
namespace Go.Proofs.YthknkdphofjmhaaDoor.Can
open Go.RowKit Wd Cb Eid EncB Prim CbCopy CbList CbRight CbWrite CbSame CbRead CbShort

theorem dok_name {xs : List Int} {n : Nm} {r ok : Bool} (h : (ok = true → NameD xs n) ∧ (ok = false → ∀ m, ¬ NameD xs m)) (hr : r = true ↔ DOk 6 xs) : r = ok := by
  cases ok
  · cases r
    · rfl
    · obtain ⟨m, hm⟩ := (hr.1 rfl).1 rfl
      exact absurd hm (h.2 rfl m)
  · exact hr.2 ⟨fun _ => ⟨n, h.1 rfl⟩, fun e => absurd e (by decide), fun e => absurd e (by decide)⟩
theorem dok_age {xs : List Int} {n : Int} {r ok : Bool} (h : (ok = true → AgeD xs n) ∧ (ok = false → ∀ m, ¬ AgeD xs m)) (hr : r = true ↔ DOk 7 xs) : r = ok := by
  cases ok
  · cases r
    · rfl
    · obtain ⟨m, hm⟩ := (hr.1 rfl).2.1 rfl
      exact absurd hm (h.2 rfl m)
  · exact hr.2 ⟨fun e => absurd e (by decide), fun _ => ⟨n, h.1 rfl⟩, fun e => absurd e (by decide)⟩
theorem dok_hops {xs : List Int} {l c : Int} {r ok : Bool} (h : (ok = true → HopsD xs l c) ∧ (ok = false → ∀ l' c', ¬ HopsD xs l' c')) (hr : r = true ↔ DOk 10 xs) : r = ok := by
  cases ok
  · cases r
    · rfl
    · obtain ⟨l', c', hm⟩ := (hr.1 rfl).2.2 rfl
      exact absurd hm (h.2 rfl l' c')
  · exact hr.2 ⟨fun e => absurd e (by decide), fun e => absurd e (by decide), fun _ => ⟨l, c, h.1 rfl⟩⟩
theorem dok_else {t : Int} {xs : List Int} {r : Bool} (h6 : t ≠ 6) (h7 : t ≠ 7) (h10 : t ≠ 10) (hr : r = true ↔ DOk t xs) : r = true := hr.2 ⟨fun e => absurd e h6, fun e => absurd e h7, fun e => absurd e h10⟩

set_option maxRecDepth 100000 in
set_option maxHeartbeats 4000000 in
theorem rightData_any (b : Cbk) (hb : St.bts b.dat) (A : Option Addr) (B c : Nat) (w : World) (hs : Lst w B A (u8s b.dat)) (hB : B ≤ w.heap.size) (hc : b.dat.length ≤ c) (hm : c ≤ maxLen) (hl : b.dat.length ≤ 1000000) (hT : Tabs w) (r : Bool) (hr : r = true ↔ DOk b.ty b.dat) :
    Calls Tryd.prog 51 #[cval b A c] w fun e w' => e = .returned (.bool r) ∧ Below w.heap.size w w' := by
  have HB0 := Lib.hid ((Below.refl w.heap.size w).alloc (Nat.le_refl _) (.cells #[.int .u64 b.ty, .int .u64 b.no, .int .u64 b.fl, .int .i64 b.sm, .slice A b.dat.length c] 46))
  have HK0 := Lib.hid (Blk.new w 46 #[.int .u64 b.ty, .int .u64 b.no, .int .u64 b.fl, .int .i64 b.sm, .slice A b.dat.length c])
  have C6 := Lib.hid (fun (W : World) (h : Below w.heap.size w W) => name_any A B c b.dat W (hs.below (h.mono hB)) (Nat.le_trans hB h.size) hb hc hm hl (hT.below h (Nat.le_refl _)))
  have C7 := Lib.hid (fun (W : World) (h : Below w.heap.size w W) => age_any A B c b.dat W (hs.below (h.mono hB)) (Nat.le_trans hB h.size) hb hc hm hl (hT.below h (Nat.le_refl _)))
  have C10 := Lib.hid (fun (W : World) (h : Below w.heap.size w W) => hops_any A B c b.dat W (hs.below (h.mono hB)) (Nat.le_trans hB h.size) hb hc hm hl (hT.below h (Nat.le_refl _)))
  have HR := Lib.hid hr
  clear hs hT hb hr
  obtain ⟨t, n, f, s, D⟩ := b
  simp only at *
  go_enter Tryd.func51, Tryd.ntmps51
  go_upto_region 2 with (fail)
  generalize w.alloc (.cells #[.int .u64 t, .int .u64 n, .int .u64 f, .int .i64 s, .slice A D.length c] 46) = w0 at *
  obtain ⟨k0, k1, k2, k3, k4⟩ := cells5 HK0.out
  by_cases h6 : t = 6
  · subst h6
    go_wp2_with fail
    refine (C6.out _ HB0.out).mono ?_
    rintro e w1 ⟨⟨x, ok, rfl, hx, HN⟩, hb1⟩
    have HF := Lib.hid (dok_name HN.out HR.out)
    have HB1 := Lib.hid (below_next HB0.out HB0.out.size hb1)
    clear hx HN hb1
    go_wp2_with fail
    go_ret
    exact ⟨by rw [HF.out]; rfl, HB1.out⟩
  · have d6 : (t == 6) = false := by simpa using h6
    by_cases h7 : t = 7
    · subst h7
      go_wp2_with fail
      refine (C7.out _ HB0.out).mono ?_
      rintro e w1 ⟨⟨x, ok, rfl, hx, HN⟩, hb1⟩
      have HF := Lib.hid (dok_age HN.out HR.out)
      have HB1 := Lib.hid (below_next HB0.out HB0.out.size hb1)
      clear hx HN hb1
      go_wp2_with fail
      go_ret
      exact ⟨by rw [HF.out]; rfl, HB1.out⟩
    · have d7 : (t == 7) = false := by simpa using h7
      by_cases h10 : t = 10
      · subst h10
        go_wp2_with fail
        refine (C10.out _ HB0.out).mono ?_
        rintro e w1 ⟨⟨x, y, ok, rfl, HN⟩, hb1⟩
        have HF := Lib.hid (dok_hops HN.out HR.out)
        have HB1 := Lib.hid (below_next HB0.out HB0.out.size hb1)
        clear HN hb1
        go_wp2_with fail
        go_ret
        exact ⟨by rw [HF.out]; rfl, HB1.out⟩
      · have d10 : (t == 10) = false := by simpa using h10
        have HF := Lib.hid (dok_else h6 h7 h10 HR.out)
        clear h6 h7 h10
        go_wp2_with fail
        go_ret
        exact ⟨by rw [HF.out]; rfl, HB0.out⟩

theorem cfit_no {b : Cbk} {r : Bool} (hr : r = true ↔ CRight b) (h : cfit b = false) : r = false := by
  cases r
  · rfl
  · rw [(hr.1 rfl).1] at h
    cases h
set_option maxRecDepth 100000 in
set_option maxHeartbeats 4000000 in
theorem cright_any (b : Cbk) (hb : St.bts b.dat) (A : Option Addr) (B c : Nat) (w : World) (hs : Lst w B A (u8s b.dat)) (hB : B ≤ w.heap.size) (hc : b.dat.length ≤ c) (hm : c ≤ maxLen) (hT : Tabs w) (r : Bool) (hr : r = true ↔ CRight b) :
    Calls Tryd.prog 26 #[cval b A c] w fun e w' => e = .returned (.bool r) ∧ Below w.heap.size w w' := by
  have HB0 := Lib.hid ((Below.refl w.heap.size w).alloc (Nat.le_refl _) (.cells #[.int .u64 b.ty, .int .u64 b.no, .int .u64 b.fl, .int .i64 b.sm, .slice A b.dat.length c] 46))
  have HK0 := Lib.hid (Blk.new w 46 #[.int .u64 b.ty, .int .u64 b.no, .int .u64 b.fl, .int .i64 b.sm, .slice A b.dat.length c])
  have CD := Lib.hid (fun (W : World) (h : Below w.heap.size w W) (hl : b.dat.length ≤ 200) (q : Bool) (hq : q = true ↔ DOk b.ty b.dat) => rightData_any b hb A B c W (hs.below (h.mono hB)) (Nat.le_trans hB h.size) hc hm (by omega) (hT.below h (Nat.le_refl _)) q hq)
  have HNO := Lib.hid (cfit_no hr)
  have HR := Lib.hid hr
  have HC := Lib.hid (show cfit b = ((decide (1 ≤ b.ty) && decide (b.ty ≤ 255)) && ((decide (1 ≤ b.no) && decide (b.no ≤ 255)) && (fitF b.fl && (decide (0 ≤ b.sm) && (decide (b.sm ≤ 2) && decide ((b.dat.length : Int) ≤ 200)))))) from rfl)
  clear hs hT hb hr
  have HRD : Hid (cfit b = true → (r = true ↔ DOk b.ty b.dat)) := Lib.hid (fun h => ⟨fun e => (HR.out.1 e).2, fun e => HR.out.2 ⟨h, e⟩⟩)
  clear HR
  generalize cfit b = cf at *
  obtain ⟨t, n, f, s, D⟩ := b
  simp only at *
  go_enter Tryd.func26, Tryd.ntmps26
  go_upto_region 1 with (fail)
  generalize w.alloc (.cells #[.int .u64 t, .int .u64 n, .int .u64 f, .int .i64 s, .slice A D.length c] 46) = w0 at *
  obtain ⟨k0, k1, k2, k3, k4⟩ := cells5 HK0.out
  cases h1 : (decide (1 ≤ t) && decide (t ≤ 255))
  · have HF := Lib.hid (HNO.out (by rw [HC.out, h1]; rfl))
    go_wp2_with fail
    refine (fromOne_any t _).mono ?_
    rintro e w1 ⟨rfl, rfl⟩
    rw [h1]
    go_wp2_with fail
    go_ret
    exact ⟨by rw [HF.out]; rfl, HB0.out⟩
  go_wp2_with fail
  refine (fromOne_any t _).mono ?_
  rintro e w1 ⟨rfl, rfl⟩
  rw [h1]
  cases h2 : (decide (1 ≤ n) && decide (n ≤ 255))
  · have HF := Lib.hid (HNO.out (by rw [HC.out, h1, h2]; rfl))
    go_wp2_with fail
    refine (fromOne_any n _).mono ?_
    rintro e w1 ⟨rfl, rfl⟩
    rw [h2]
    go_wp2_with fail
    go_ret
    exact ⟨by rw [HF.out]; rfl, HB0.out⟩
  go_wp2_with fail
  refine (fromOne_any n _).mono ?_
  rintro e w1 ⟨rfl, rfl⟩
  rw [h2]
  cases h3 : fitF f
  · have h3' : (bits .andNot .u64 f 23 == 0) = false := h3
    have HF := Lib.hid (HNO.out (by rw [HC.out, h1, h2, h3]; rfl))
    go_wp2_with fail
    go_ret
    exact ⟨by rw [HF.out]; rfl, HB0.out⟩
  have h3' : (bits .andNot .u64 f 23 == 0) = true := h3
  cases h4 : decide (0 ≤ s)
  · have HF := Lib.hid (HNO.out (by rw [HC.out, h1, h2, h3, h4]; rfl))
    go_wp2_with fail
    go_ret
    exact ⟨by rw [HF.out]; rfl, HB0.out⟩
  cases h5 : decide (s ≤ 2)
  · have HF := Lib.hid (HNO.out (by rw [HC.out, h1, h2, h3, h4, h5]; rfl))
    go_wp2_with fail
    go_ret
    exact ⟨by rw [HF.out]; rfl, HB0.out⟩
  cases h6 : decide ((D.length : Int) ≤ 200)
  · have HF := Lib.hid (HNO.out (by rw [HC.out, h1, h2, h3, h4, h5, h6]; rfl))
    go_wp2_with fail
    go_ret
    exact ⟨by rw [HF.out]; rfl, HB0.out⟩
  have CD2 := Lib.hid (CD.out _ HB0.out (by have := of_decide_eq_true h6; omega) r (HRD.out (by rw [HC.out, h1, h2, h3, h4, h5, h6]; rfl)))
  go_wp2_with fail
  refine CD2.out.mono ?_
  rintro e w1 ⟨rfl, hb1⟩
  have HB1 := Lib.hid (below_next HB0.out HB0.out.size hb1)
  clear hb1
  go_wp2_with fail
  go_ret
  exact ⟨rfl, HB1.out⟩
end Go.Proofs.YthknkdphofjmhaaDoor.Can
/- Blocks of a name, an age, hops: the contracts of made, OfPrevious, OfAge, OfHops. -/
namespace Go.Proofs.YthknkdphofjmhaaDoor.Can
open Go.RowKit Wd Cb Eid EncB Prim CbCopy CbList CbRight CbWrite CbSame CbRead CbShort

abbrev zeroC5 : Array Value := #[.int .u64 0, .int .u64 0, .int .u64 0, .int .i64 0, .slice none 0 0]
/-- What a maker of blocks answers. -/
def MadeO (w w' : World) (b : Cbk) (r : Bool) (e : Ending) : Prop :=
  (r = true → ∃ A, e = .returned (.tuple #[cval b A b.dat.length, .int .i64 0]) ∧ Hid (Seg w' w.heap.size w'.heap.size A (u8s b.dat))) ∧ (r = false → e = .returned (.tuple #[.agg zeroC5, .int .i64 3]))
/-- The block of an item. -/
abbrev mblk (k n s : Int) (x : Itm) : Cbk := ⟨k, n, 0, s, enc x⟩

theorem set5_cell (w : World) (g : Nat) (a b c d e : Value) {p : Addr} (h : p.block ≠ g) : (Eid.set5 w g a b c d e).cell? p = w.cell? p := by
  unfold Eid.set5
  rw [World.cell?_setCell_far _ _ _ _ (fun q => h q.symm), World.cell?_setCell_far _ _ _ _ (fun q => h q.symm), World.cell?_setCell_far _ _ _ _ (fun q => h q.symm), World.cell?_setCell_far _ _ _ _ (fun q => h q.symm), World.cell?_setCell_far _ _ _ _ (fun q => h q.symm)]
theorem set5_size (w : World) (g : Nat) (a b c d e : Value) : (Eid.set5 w g a b c d e).heap.size = w.heap.size := by simp [World.setCell]

set_option maxRecDepth 100000 in
set_option maxHeartbeats 4000000 in
theorem made_any (k n s : Int) (x : Itm) (v : Value) (w : World) (hv : ItemV w 0 w.heap.size x v) (hx : Cb.right x = true) (hl : (enc x).length ≤ 1000000) (hT : Tabs w) (r : Bool) (hr : r = true ↔ CRight (mblk k n s x)) :
    Calls Tryd.prog 45 #[.int .u64 k, .int .u64 n, .int .i64 s, v] w fun e w' => MadeO w w' (mblk k n s x) r e ∧ Below w.heap.size w w' := by
  have HX := Lib.hid (EncB.enc_bts x (EncB.right_fine hx) (EncB.sane_of hv) (by omega))
  obtain ⟨A1, c1, A2, c2, rfl, _⟩ := hv.open_
  have HB0 := Lib.hid (((Below.refl w.heap.size w).alloc (Nat.le_refl _) (.cells #[.int .i64 x.kind, .int .u64 x.num, .slice A1 x.bs.length c1, .slice A2 x.sub.length c2] 26)).alloc (by simp) (.cells zeroC5 46))
  have HK0 := Lib.hid ((Blk.new w 26 #[.int .i64 x.kind, .int .u64 x.num, .slice A1 x.bs.length c1, .slice A2 x.sub.length c2]).alloc (.cells zeroC5 46))
  have hz := Blk.new (w.alloc (.cells #[.int .i64 x.kind, .int .u64 x.num, .slice A1 x.bs.length c1, .slice A2 x.sub.length c2] 26)) 46 zeroC5
  rw [World.size_alloc] at hz
  have HZ0 := Lib.hid hz
  have CW := Lib.hid (fun (W : World) (h : Below w.heap.size w W) => write_yes x _ w.heap.size W (hv.below h) h.size (hT.below h (Nat.le_refl _)) hx (by omega))
  have HTW := Lib.hid (fun (W : World) (h : Below w.heap.size w W) => hT.below h (Nat.le_refl _))
  have HR := Lib.hid hr
  clear hv hx hT hr hz
  go_enter Tryd.func45, Tryd.ntmps45
  go_upto_region 1 with (fail)
  generalize (w.alloc (.cells #[.int .i64 x.kind, .int .u64 x.num, .slice A1 x.bs.length c1, .slice A2 x.sub.length c2] 26)).alloc (.cells zeroC5 46) = w0 at *
  obtain ⟨k0, k1, k2, k3⟩ := cells4 HK0.out
  go_wp2_with fail
  refine (CW.out _ HB0.out).mono ?_
  rintro e w1 ⟨A3, rfl, HSG, hb1⟩
  generalize hD : enc x = D at *
  clear k0 k1 k2 k3
  have HBa := Lib.hid ((below_next HB0.out HB0.out.size hb1).alloc (Nat.le_trans HB0.out.size hb1.size) (.cells #[.int .u64 k, .int .u64 n, .int .u64 0, .int .i64 s, .slice A3 D.length D.length] 46))
  have HKa := Lib.hid (Blk.new w1 46 #[.int .u64 k, .int .u64 n, .int .u64 0, .int .i64 s, .slice A3 D.length D.length])
  have HZa := Lib.hid ((HZ0.out.next hb1).alloc (.cells #[.int .u64 k, .int .u64 n, .int .u64 0, .int .i64 s, .slice A3 D.length D.length] 46))
  have HSa := Lib.hid (((HSG.out.below ((Below.refl w1.heap.size w1).alloc (Nat.le_refl _) (.cells #[.int .u64 k, .int .u64 n, .int .u64 0, .int .i64 s, .slice A3 D.length D.length] 46))).more (Nat.le_refl w0.heap.size) (show w1.heap.size ≤ (w1.alloc (.cells #[.int .u64 k, .int .u64 n, .int .u64 0, .int .i64 s, .slice A3 D.length D.length] 46)).heap.size by simp)))
  have hz0 : w.heap.size + 1 < w0.heap.size := HZ0.out.lt
  clear HSG hb1 HB0 HK0 HZ0 CW
  go_upto_region 3 with (fail)
  generalize w1.alloc (.cells #[.int .u64 k, .int .u64 n, .int .u64 0, .int .i64 s, .slice A3 D.length D.length] 46) = W at *
  obtain ⟨k0, k1, k2, k3, k4⟩ := cells5 HKa.out
  have CR := Lib.hid (cright_any (mblk k n s x) (by rw [show (mblk k n s x).dat = D from hD]; exact HX.out) A3 W.heap.size D.length W (by rw [show (mblk k n s x).dat = D from hD]; exact (HSa.out.more (Nat.zero_le _) (Nat.le_refl _)).lst) (Nat.le_refl _) (by rw [show (mblk k n s x).dat = D from hD]; exact Nat.le_refl _) (by unfold maxLen; omega) (HTW.out _ HBa.out) r HR.out)
  rw [show cval (mblk k n s x) A3 D.length = .agg #[.int .u64 k, .int .u64 n, .int .u64 0, .int .i64 s, .slice A3 D.length D.length] by unfold cval; rw [show (mblk k n s x).dat = D from hD]] at CR
  have HMO : Hid (∀ w' : World, MadeO w w' (mblk k n s x) r = MadeO w w' ⟨k, n, 0, s, D⟩ r) := Lib.hid (fun w' => by rw [← hD])
  clear HR HTW
  go_wp2_with fail
  refine CR.out.mono ?_
  rintro e w2 ⟨rfl, hb2⟩
  have HB2 := Lib.hid (below_next HBa.out HBa.out.size hb2)
  have HZ2 := Lib.hid (HZa.out.next hb2)
  have HK2 := Lib.hid (HKa.out.next hb2)
  have HS2 := Lib.hid ((HSa.out.below hb2).more (Nat.le_refl _) hb2.size)
  clear k0 k1 k2 k3 k4 CR HBa HZa HKa HSa hb2
  obtain ⟨k0, k1, k2, k3, k4⟩ := cells5 HK2.out
  obtain ⟨y0, y1, y2, y3, y4⟩ := cells5 HZ2.out
  obtain ⟨f0, f1, f2, f3, f4⟩ := froz5 HZ2.out
  cases r
  · have HK9 := Lib.hid (Eid.set5_blk HZ2.out (.int .u64 0) (.int .u64 0) (.int .u64 0) (.int .i64 0) (.slice none 0 0))
    have HB9 := Lib.hid (Eid.set5_below HB2.out (Nat.le_succ _) (.int .u64 0) (.int .u64 0) (.int .u64 0) (.int .i64 0) (.slice none 0 0))
    generalize hW9 : Eid.set5 w2 (w.heap.size + 1) (.int .u64 0) (.int .u64 0) (.int .u64 0) (.int .i64 0) (.slice none 0 0) = W9 at HK9 HB9
    unfold Eid.set5 at hW9
    obtain ⟨q0, q1, q2, q3, q4⟩ := cells5 HK9.out
    go_wp2_with fail
    try rw [hW9]
    exact bodyPost_ret (v := .tuple #[.agg zeroC5, .int .i64 3]) (by simp [results, Tryd.results45, go_sem, q0, q1, q2, q3, q4]) rfl ⟨by rw [HMO.out]; exact ⟨fun e => (by cases e), fun _ => rfl⟩, HB9.out⟩
  · have HK9 := Lib.hid (Eid.set5_blk HZ2.out (.int .u64 k) (.int .u64 n) (.int .u64 0) (.int .i64 s) (.slice A3 D.length D.length))
    have HB9 := Lib.hid (Eid.set5_below HB2.out (Nat.le_succ _) (.int .u64 k) (.int .u64 n) (.int .u64 0) (.int .i64 s) (.slice A3 D.length D.length))
    have HS9 := Lib.hid (show Seg (Eid.set5 w2 (w.heap.size + 1) (.int .u64 k) (.int .u64 n) (.int .u64 0) (.int .i64 s) (.slice A3 D.length D.length)) w.heap.size (Eid.set5 w2 (w.heap.size + 1) (.int .u64 k) (.int .u64 n) (.int .u64 0) (.int .i64 s) (.slice A3 D.length D.length)).heap.size A3 (u8s D) by
      rw [set5_size]
      exact (HS2.out.keep (fun p h1 _ => set5_cell _ _ _ _ _ _ _ (by omega))).more (by omega) (Nat.le_refl _))
    generalize hW9 : Eid.set5 w2 (w.heap.size + 1) (.int .u64 k) (.int .u64 n) (.int .u64 0) (.int .i64 s) (.slice A3 D.length D.length) = W9 at HK9 HB9 HS9
    unfold Eid.set5 at hW9
    obtain ⟨q0, q1, q2, q3, q4⟩ := cells5 HK9.out
    go_wp2_with fail
    try rw [hW9]
    exact bodyPost_ret (v := .tuple #[cval ⟨k, n, 0, s, D⟩ A3 D.length, .int .i64 0]) (by simp [results, Tryd.results45, go_sem, q0, q1, q2, q3, q4]) rfl ⟨by rw [HMO.out]; exact ⟨fun _ => ⟨A3, rfl, HS9⟩, fun e => (by cases e)⟩, HB9.out⟩
end Go.Proofs.YthknkdphofjmhaaDoor.Can
/- Blocks of an age, of hops, of a name: the contracts of OfAge, OfHops, OfPrevious. -/
namespace Go.Proofs.YthknkdphofjmhaaDoor.Can
open Go.RowKit Wd Cb Eid EncB Prim CbCopy CbList CbRight CbWrite CbSame CbRead CbShort

theorem numV {w : World} (a : Int) (h0 : 0 ≤ a) (h1 : a ≤ 18446744073709551615) : ItemV w 0 w.heap.size (iN a) (.agg #[.int .i64 0, .int .u64 a, .slice none 0 0, .slice none 0 0]) :=
  ItemV.mk ⟨by omega, by omega⟩ ⟨h0, h1⟩ (fun q hq => by simp at hq) (Nat.le_refl _) (by unfold maxLen; omega) .nil (Nat.le_refl _) (by unfold maxLen; omega) .nil
theorem iLL_len (a b : Int) : (enc (iL (iN a) (iN b))).length ≤ 27 := by
  have h1 := iN_len a
  have h2 := iN_len b
  have h3 := iL_len (iN a) (iN b)
  omega

set_option maxRecDepth 100000 in
set_option maxHeartbeats 4000000 in
theorem ofAge_any (n s a : Int) (w : World) (h0 : 0 ≤ a) (h1 : a ≤ 18446744073709551615) (hT : Tabs w) (r : Bool) (hr : r = true ↔ CRight (mblk 7 n s (iN a))) :
    Calls Tryd.prog 22 #[.int .u64 n, .int .i64 s, .int .u64 a] w fun e w' => MadeO w w' (mblk 7 n s (iN a)) r e ∧ Below w.heap.size w w' := by
  have HB0 := Lib.hid ((Below.refl w.heap.size w).alloc (Nat.le_refl _) (.cells zeroC5 46))
  have HZ0 := Lib.hid (Blk.new w 46 zeroC5)
  have CN := Lib.hid (fun W => num_any a W h0 h1)
  have CM := Lib.hid (fun (W : World) (h : Below w.heap.size w W) => made_any 7 n s (iN a) _ W (numV a h0 h1) (iN_right a) (by have := iN_len a; omega) (hT.below h (Nat.le_refl _)) r hr)
  clear hT hr
  go_enter Tryd.func22, Tryd.ntmps22
  go_upto_region 1 with (fail)
  generalize w.alloc (.cells zeroC5 46) = w0 at *
  go_wp2_with fail
  refine (CN.out _).mono ?_
  rintro e w1 ⟨rfl, hb1⟩
  have HB1 := Lib.hid (below_next HB0.out HB0.out.size hb1)
  have HZ1 := Lib.hid (HZ0.out.next hb1)
  clear hb1 HB0 HZ0 CN
  go_wp2_with fail
  refine (CM.out _ HB1.out).mono ?_
  clear CM
  rintro e w2 ⟨HM, hb2⟩
  have HB2 := Lib.hid (below_next HB1.out HB1.out.size hb2)
  have HZ2 := Lib.hid (HZ1.out.next hb2)
  have hz1 : w.heap.size < w1.heap.size := HZ1.out.lt
  clear hb2 HZ1 HB1
  obtain ⟨y0, y1, y2, y3, y4⟩ := cells5 HZ2.out
  obtain ⟨f0, f1, f2, f3, f4⟩ := froz5 HZ2.out
  generalize hD : enc (iN a) = D at *
  replace HM : MadeO w1 w2 ⟨7, n, 0, s, D⟩ r e := by rw [← hD]; exact HM
  have HMO : Hid (∀ (w' : World) (e' : Ending), MadeO w w' ⟨7, n, 0, s, D⟩ r e' → MadeO w w' (mblk 7 n s (iN a)) r e') := Lib.hid (fun w' e' h => by rw [← hD] at h; exact h)
  clear hD
  cases r
  · obtain rfl := HM.2 rfl
    have HK9 := Lib.hid (Eid.set5_blk HZ2.out (.int .u64 0) (.int .u64 0) (.int .u64 0) (.int .i64 0) (.slice none 0 0))
    have HB9 := Lib.hid (Eid.set5_below HB2.out (show w.heap.size ≤ w.heap.size by omega) (.int .u64 0) (.int .u64 0) (.int .u64 0) (.int .i64 0) (.slice none 0 0))
    generalize hW9 : Eid.set5 w2 (w.heap.size) (.int .u64 0) (.int .u64 0) (.int .u64 0) (.int .i64 0) (.slice none 0 0) = W9 at HK9 HB9
    unfold Eid.set5 at hW9
    obtain ⟨q0, q1, q2, q3, q4⟩ := cells5 HK9.out
    go_wp2_with fail
    try rw [hW9]
    exact bodyPost_ret (v := .tuple #[.agg zeroC5, .int .i64 3]) (by simp [results, Tryd.results22, go_sem, q0, q1, q2, q3, q4]) rfl ⟨HMO.out _ _ ⟨fun e => (by cases e), fun _ => rfl⟩, HB9.out⟩
  · obtain ⟨A3, rfl, HS2⟩ := HM.1 rfl
    have HK9 := Lib.hid (Eid.set5_blk HZ2.out (.int .u64 7) (.int .u64 n) (.int .u64 0) (.int .i64 s) (.slice A3 D.length D.length))
    have HB9 := Lib.hid (Eid.set5_below HB2.out (show w.heap.size ≤ w.heap.size by omega) (.int .u64 7) (.int .u64 n) (.int .u64 0) (.int .i64 s) (.slice A3 D.length D.length))
    have HS9 := Lib.hid (show Seg (Eid.set5 w2 (w.heap.size) (.int .u64 7) (.int .u64 n) (.int .u64 0) (.int .i64 s) (.slice A3 D.length D.length)) w.heap.size (Eid.set5 w2 (w.heap.size) (.int .u64 7) (.int .u64 n) (.int .u64 0) (.int .i64 s) (.slice A3 D.length D.length)).heap.size A3 (u8s D) by
      rw [set5_size]
      exact (HS2.out.keep (w' := Eid.set5 w2 (w.heap.size) (.int .u64 7) (.int .u64 n) (.int .u64 0) (.int .i64 s) (.slice A3 D.length D.length)) (fun p h1 _ => set5_cell w2 (w.heap.size) _ _ _ _ _ (show p.block ≠ w.heap.size by omega))).more (show w.heap.size ≤ w1.heap.size by omega) (Nat.le_refl _))
    generalize hW9 : Eid.set5 w2 (w.heap.size) (.int .u64 7) (.int .u64 n) (.int .u64 0) (.int .i64 s) (.slice A3 D.length D.length) = W9 at HK9 HB9 HS9
    unfold Eid.set5 at hW9
    obtain ⟨q0, q1, q2, q3, q4⟩ := cells5 HK9.out
    go_wp2_with fail
    try rw [hW9]
    exact bodyPost_ret (v := .tuple #[cval ⟨7, n, 0, s, D⟩ A3 D.length, .int .i64 0]) (by simp [results, Tryd.results22, go_sem, q0, q1, q2, q3, q4]) rfl ⟨HMO.out _ _ ⟨fun _ => ⟨A3, rfl, HS9⟩, fun e => (by cases e)⟩, HB9.out⟩

set_option maxRecDepth 100000 in
set_option maxHeartbeats 4000000 in
theorem ofHops_any (n s l c : Int) (w : World) (h0 : 0 ≤ l ∧ l ≤ 18446744073709551615) (h1 : 0 ≤ c ∧ c ≤ 18446744073709551615) (hT : Tabs w) (r : Bool) (hr : r = true ↔ CRight (mblk 10 n s (iL (iN l) (iN c)))) :
    Calls Tryd.prog 24 #[.int .u64 n, .int .i64 s, .int .u64 l, .int .u64 c] w fun e w' => MadeO w w' (mblk 10 n s (iL (iN l) (iN c))) r e ∧ Below w.heap.size w w' := by
  have hb0 := ((Below.refl w.heap.size w).alloc (Nat.le_refl _) (.cells zeroC5 46)).alloc (by simp) (.cells #[.int .u64 l, .int .u64 c] 22)
  have HB0 := Lib.hid hb0
  have HZ0 := Lib.hid ((Blk.new w 46 zeroC5).alloc (.cells #[.int .u64 l, .int .u64 c] 22))
  have hn := numbers_any (some ⟨w.heap.size + 1, 0, none⟩) (w.heap.size + 2) 2 [l, c] ((w.alloc (.cells zeroC5 46)).alloc (.cells #[.int .u64 l, .int .u64 c] 22)) (by
    have := Lst.lit (w.alloc (.cells zeroC5 46)) #[.int .u64 l, .int .u64 c] 22
    rw [World.size_alloc] at this
    exact this) (by simp) (by intro x hx; simp at hx; rcases hx with rfl | rfl <;> assumption) (by simp)
  have CN := Lib.hid hn
  have CM := Lib.hid (fun (W : World) (h : Below w.heap.size w W) (v : Value) (hv : ItemV W 0 W.heap.size (iL (iN l) (iN c)) v) => made_any 10 n s (iL (iN l) (iN c)) v W hv (iL_right l c) (by have := iLL_len l c; omega) (hT.below h (Nat.le_refl _)) r hr)
  clear hT hr hb0 hn
  go_enter Tryd.func24, Tryd.ntmps24
  go_upto_region 1 with (fail)
  go_wp2_with fail
  generalize (w.alloc (.cells zeroC5 46)).alloc (.cells #[.int .u64 l, .int .u64 c] 22) = w0 at *
  refine CN.out.mono ?_
  rintro e w1 ⟨v, rfl, HRI, hb1⟩
  obtain ⟨A1, c1, rfl, hc1, hm1⟩ := HRI.out.slice
  have HIT := Lib.hid ((HRI.out.items rfl).more (Nat.zero_le _) (Nat.le_refl _))
  have HBa := Lib.hid (below_next HB0.out HB0.out.size hb1)
  have HZa := Lib.hid (HZ0.out.next hb1)
  have hzz := HZ0.out.lt
  clear hb1 HB0 HZ0 CN HRI
  simp only [List.map_cons, List.map_nil] at HIT hc1
  go_wp2_with fail
  refine (list_any [iN l, iN c] A1 w1.heap.size c1 w1 HIT.out (Nat.le_refl _) hc1 hm1 (by simp [CbList.wides, CbList.wide]) (by simp [sizes, size]) (by simp [deeps, deep])).mono ?_
  rintro e w1' ⟨A2, rfl, HI2, hb1⟩
  have HB1 := Lib.hid (below_next HBa.out HBa.out.size hb1)
  have HZ1 := Lib.hid (HZa.out.next hb1)
  have HV := Lib.hid (show ItemV w1' 0 w1'.heap.size (iL (iN l) (iN c)) (.agg #[.int .i64 4, .int .u64 0, .slice none 0 0, .slice A2 2 2]) from item_list (l := [iN l, iN c]) (HI2.out.more (Nat.zero_le _) (Nat.le_refl _)) rfl (Nat.le_refl _) (by unfold maxLen; omega))
  clear hb1 HBa HZa HI2 HIT
  generalize w1' = w1 at *
  go_wp2_with fail
  refine (CM.out _ HB1.out _ HV.out).mono ?_
  clear CM HV
  rintro e w2 ⟨HM, hb2⟩
  have HB2 := Lib.hid (below_next HB1.out HB1.out.size hb2)
  have HZ2 := Lib.hid (HZ1.out.next hb2)
  have hz1 : w.heap.size < w1.heap.size := HZ1.out.lt
  clear hb2 HZ1 HB1
  obtain ⟨y0, y1, y2, y3, y4⟩ := cells5 HZ2.out
  obtain ⟨f0, f1, f2, f3, f4⟩ := froz5 HZ2.out
  generalize hD : enc (iL (iN l) (iN c)) = D at *
  replace HM : MadeO w1 w2 ⟨10, n, 0, s, D⟩ r e := by rw [← hD]; exact HM
  have HMO : Hid (∀ (w' : World) (e' : Ending), MadeO w w' ⟨10, n, 0, s, D⟩ r e' → MadeO w w' (mblk 10 n s (iL (iN l) (iN c))) r e') := Lib.hid (fun w' e' h => by rw [← hD] at h; exact h)
  clear hD
  cases r
  · obtain rfl := HM.2 rfl
    have HK9 := Lib.hid (Eid.set5_blk HZ2.out (.int .u64 0) (.int .u64 0) (.int .u64 0) (.int .i64 0) (.slice none 0 0))
    have HB9 := Lib.hid (Eid.set5_below HB2.out (show w.heap.size ≤ w.heap.size by omega) (.int .u64 0) (.int .u64 0) (.int .u64 0) (.int .i64 0) (.slice none 0 0))
    generalize hW9 : Eid.set5 w2 (w.heap.size) (.int .u64 0) (.int .u64 0) (.int .u64 0) (.int .i64 0) (.slice none 0 0) = W9 at HK9 HB9
    unfold Eid.set5 at hW9
    obtain ⟨q0, q1, q2, q3, q4⟩ := cells5 HK9.out
    go_wp2_with fail
    try rw [hW9]
    exact bodyPost_ret (v := .tuple #[.agg zeroC5, .int .i64 3]) (by simp [results, Tryd.results24, go_sem, q0, q1, q2, q3, q4]) rfl ⟨HMO.out _ _ ⟨fun e => (by cases e), fun _ => rfl⟩, HB9.out⟩
  · obtain ⟨A3, rfl, HS2⟩ := HM.1 rfl
    have HK9 := Lib.hid (Eid.set5_blk HZ2.out (.int .u64 10) (.int .u64 n) (.int .u64 0) (.int .i64 s) (.slice A3 D.length D.length))
    have HB9 := Lib.hid (Eid.set5_below HB2.out (show w.heap.size ≤ w.heap.size by omega) (.int .u64 10) (.int .u64 n) (.int .u64 0) (.int .i64 s) (.slice A3 D.length D.length))
    have HS9 := Lib.hid (show Seg (Eid.set5 w2 (w.heap.size) (.int .u64 10) (.int .u64 n) (.int .u64 0) (.int .i64 s) (.slice A3 D.length D.length)) w.heap.size (Eid.set5 w2 (w.heap.size) (.int .u64 10) (.int .u64 n) (.int .u64 0) (.int .i64 s) (.slice A3 D.length D.length)).heap.size A3 (u8s D) by
      rw [set5_size]
      exact (HS2.out.keep (w' := Eid.set5 w2 (w.heap.size) (.int .u64 10) (.int .u64 n) (.int .u64 0) (.int .i64 s) (.slice A3 D.length D.length)) (fun p h1 _ => set5_cell w2 (w.heap.size) _ _ _ _ _ (show p.block ≠ w.heap.size by omega))).more (show w.heap.size ≤ w1.heap.size by omega) (Nat.le_refl _))
    generalize hW9 : Eid.set5 w2 (w.heap.size) (.int .u64 10) (.int .u64 n) (.int .u64 0) (.int .i64 s) (.slice A3 D.length D.length) = W9 at HK9 HB9 HS9
    unfold Eid.set5 at hW9
    obtain ⟨q0, q1, q2, q3, q4⟩ := cells5 HK9.out
    go_wp2_with fail
    try rw [hW9]
    exact bodyPost_ret (v := .tuple #[cval ⟨10, n, 0, s, D⟩ A3 D.length, .int .i64 0]) (by simp [results, Tryd.results24, go_sem, q0, q1, q2, q3, q4]) rfl ⟨HMO.out _ _ ⟨fun _ => ⟨A3, rfl, HS9⟩, fun e => (by cases e)⟩, HB9.out⟩

/-- The item of a name that may be; else the number 0. -/
def nameI (x : Nm) : Itm := if right x then itemOf x else iN 0
theorem nameI_right (x : Nm) : Cb.right (nameI x) = true := by
  unfold nameI
  split
  · exact itemOf_right x ‹_›
  · exact iN_right 0
theorem nameI_len (x : Nm) : (enc (nameI x)).length ≤ 3000 := by
  unfold nameI
  split
  · exact itemOf_len x ‹_›
  · have := iN_len 0
    omega

set_option maxRecDepth 100000 in
set_option maxHeartbeats 4000000 in
theorem ofPrevious_any (n s : Int) (x : Nm) (hx : x.ok) (w : World) (hT : Tabs w) (r : Bool) (hr : r = true ↔ CRight (mblk 6 n s (nameI x))) :
    Calls Tryd.prog 20 #[.int .u64 n, .int .i64 s, x.val] w fun e w' => MadeO w w' (mblk 6 n s (nameI x)) r e ∧ Below w.heap.size w w' := by
  have CW := Lib.hid (fun W => show Calls Tryd.prog 44 #[x.val] W fun e w' => ∃ v, e = .returned (.tuple #[v, .int .i64 (if right x then 0 else 3)]) ∧ Hid (ItemV w' 0 w'.heap.size (nameI x) v) ∧ Below W.heap.size W w' from write_any x hx W)
  have CM := Lib.hid (fun (W : World) (h : Below w.heap.size w W) (v : Value) (hv : ItemV W 0 W.heap.size (nameI x) v) => made_any 6 n s (nameI x) v W hv (nameI_right x) (by have := nameI_len x; omega) (hT.below h (Nat.le_refl _)) r hr)
  clear hT hr hx
  generalize nameI x = NI at *
  generalize (if right x then (0 : Int) else 3) = rx at *
  obtain ⟨i, nn, ss, h, d⟩ := x
  have HB0 := Lib.hid (((Below.refl w.heap.size w).alloc (Nat.le_refl _) (.cells #[.bool i, .int .u64 nn, .int .u64 ss, .string h, .string d] 48)).alloc (by simp) (.cells zeroC5 46))
  have HK0 := Lib.hid ((Blk.new w 48 #[.bool i, .int .u64 nn, .int .u64 ss, .string h, .string d]).alloc (.cells zeroC5 46))
  have hz := Blk.new (w.alloc (.cells #[.bool i, .int .u64 nn, .int .u64 ss, .string h, .string d] 48)) 46 zeroC5
  rw [World.size_alloc] at hz
  have HZ0 := Lib.hid hz
  clear hz
  go_enter Tryd.func20, Tryd.ntmps20
  go_upto_region 1 with (fail)
  generalize (w.alloc (.cells #[.bool i, .int .u64 nn, .int .u64 ss, .string h, .string d] 48)).alloc (.cells zeroC5 46) = w0 at *
  obtain ⟨k0, k1, k2, k3, k4⟩ := cells5 HK0.out
  go_wp2_with fail
  refine (CW.out _).mono ?_
  rintro e wa ⟨v, rfl, HV, hb1⟩
  obtain ⟨A1, c1, A2, c2, rfl, _⟩ := HV.out.open_
  have HB1 := Lib.hid ((below_next HB0.out HB0.out.size hb1).alloc (Nat.le_trans HB0.out.size hb1.size) (.cells #[.int .i64 NI.kind, .int .u64 NI.num, .slice A1 NI.bs.length c1, .slice A2 NI.sub.length c2] 26))
  have HKa := Lib.hid (Blk.new wa 26 #[.int .i64 NI.kind, .int .u64 NI.num, .slice A1 NI.bs.length c1, .slice A2 NI.sub.length c2])
  have HZ1 := Lib.hid ((HZ0.out.next hb1).alloc (.cells #[.int .i64 NI.kind, .int .u64 NI.num, .slice A1 NI.bs.length c1, .slice A2 NI.sub.length c2] 26))
  have HVa := Lib.hid ((HV.out.alloc (Nat.le_refl _) (.cells #[.int .i64 NI.kind, .int .u64 NI.num, .slice A1 NI.bs.length c1, .slice A2 NI.sub.length c2] 26)).more (Nat.le_refl 0) (show wa.heap.size ≤ (wa.alloc (.cells #[.int .i64 NI.kind, .int .u64 NI.num, .slice A1 NI.bs.length c1, .slice A2 NI.sub.length c2] 26)).heap.size by simp))
  clear k0 k1 k2 k3 k4 hb1 HV HB0 HK0 HZ0 CW
  go_upto_region 2 with (fail)
  generalize wa.alloc (.cells #[.int .i64 NI.kind, .int .u64 NI.num, .slice A1 NI.bs.length c1, .slice A2 NI.sub.length c2] 26) = w1 at *
  obtain ⟨k0, k1, k2, k3⟩ := cells4 HKa.out
  go_wp2_with fail
  refine (CM.out _ HB1.out _ HVa.out).mono ?_
  clear CM HVa k0 k1 k2 k3
  rintro e w2 ⟨HM, hb2⟩
  have HB2 := Lib.hid (below_next HB1.out HB1.out.size hb2)
  have HZ2 := Lib.hid (HZ1.out.next hb2)
  have hz1 : w.heap.size + 1 < w1.heap.size := HZ1.out.lt
  clear hb2 HZ1 HB1
  obtain ⟨y0, y1, y2, y3, y4⟩ := cells5 HZ2.out
  obtain ⟨f0, f1, f2, f3, f4⟩ := froz5 HZ2.out
  generalize hD : enc NI = D at *
  replace HM : MadeO w1 w2 ⟨6, n, 0, s, D⟩ r e := by rw [← hD]; exact HM
  have HMO : Hid (∀ (w' : World) (e' : Ending), MadeO w w' ⟨6, n, 0, s, D⟩ r e' → MadeO w w' (mblk 6 n s NI) r e') := Lib.hid (fun w' e' h => by rw [← hD] at h; exact h)
  clear hD
  cases r
  · obtain rfl := HM.2 rfl
    have HK9 := Lib.hid (Eid.set5_blk HZ2.out (.int .u64 0) (.int .u64 0) (.int .u64 0) (.int .i64 0) (.slice none 0 0))
    have HB9 := Lib.hid (Eid.set5_below HB2.out (show w.heap.size ≤ w.heap.size + 1 by omega) (.int .u64 0) (.int .u64 0) (.int .u64 0) (.int .i64 0) (.slice none 0 0))
    generalize hW9 : Eid.set5 w2 (w.heap.size + 1) (.int .u64 0) (.int .u64 0) (.int .u64 0) (.int .i64 0) (.slice none 0 0) = W9 at HK9 HB9
    unfold Eid.set5 at hW9
    obtain ⟨q0, q1, q2, q3, q4⟩ := cells5 HK9.out
    go_wp2_with fail
    try rw [hW9]
    exact bodyPost_ret (v := .tuple #[.agg zeroC5, .int .i64 3]) (by simp [results, Tryd.results20, go_sem, q0, q1, q2, q3, q4]) rfl ⟨HMO.out _ _ ⟨fun e => (by cases e), fun _ => rfl⟩, HB9.out⟩
  · obtain ⟨A3, rfl, HS2⟩ := HM.1 rfl
    have HK9 := Lib.hid (Eid.set5_blk HZ2.out (.int .u64 6) (.int .u64 n) (.int .u64 0) (.int .i64 s) (.slice A3 D.length D.length))
    have HB9 := Lib.hid (Eid.set5_below HB2.out (show w.heap.size ≤ w.heap.size + 1 by omega) (.int .u64 6) (.int .u64 n) (.int .u64 0) (.int .i64 s) (.slice A3 D.length D.length))
    have HS9 := Lib.hid (show Seg (Eid.set5 w2 (w.heap.size + 1) (.int .u64 6) (.int .u64 n) (.int .u64 0) (.int .i64 s) (.slice A3 D.length D.length)) w.heap.size (Eid.set5 w2 (w.heap.size + 1) (.int .u64 6) (.int .u64 n) (.int .u64 0) (.int .i64 s) (.slice A3 D.length D.length)).heap.size A3 (u8s D) by
      rw [set5_size]
      exact (HS2.out.keep (w' := Eid.set5 w2 (w.heap.size + 1) (.int .u64 6) (.int .u64 n) (.int .u64 0) (.int .i64 s) (.slice A3 D.length D.length)) (fun p h1 _ => set5_cell w2 (w.heap.size + 1) _ _ _ _ _ (show p.block ≠ w.heap.size + 1 by omega))).more (show w.heap.size ≤ w1.heap.size by omega) (Nat.le_refl _))
    generalize hW9 : Eid.set5 w2 (w.heap.size + 1) (.int .u64 6) (.int .u64 n) (.int .u64 0) (.int .i64 s) (.slice A3 D.length D.length) = W9 at HK9 HB9 HS9
    unfold Eid.set5 at hW9
    obtain ⟨q0, q1, q2, q3, q4⟩ := cells5 HK9.out
    go_wp2_with fail
    try rw [hW9]
    exact bodyPost_ret (v := .tuple #[cval ⟨6, n, 0, s, D⟩ A3 D.length, .int .i64 0]) (by simp [results, Tryd.results20, go_sem, q0, q1, q2, q3, q4]) rfl ⟨HMO.out _ _ ⟨fun _ => ⟨A3, rfl, HS9⟩, fun e => (by cases e)⟩, HB9.out⟩

end Go.Proofs.YthknkdphofjmhaaDoor.Can
/- What blocks say: the contracts of fault, PreviousOf, AgeOf, HopsOf. -/
namespace Go.Proofs.YthknkdphofjmhaaDoor.Can
open Go.RowKit Wd Cb Eid EncB Prim CbCopy CbList CbRight CbWrite CbSame CbRead CbShort

/-- Why a block says nothing of a type. -/
def flt (t k : Int) (r : Bool) : Int := if t = k then (if r then 0 else 3) else 4

set_option maxRecDepth 100000 in
set_option maxHeartbeats 4000000 in
theorem fault_any (b : Cbk) (hb : St.bts b.dat) (A : Option Addr) (B c : Nat) (k : Int) (w : World) (hs : Lst w B A (u8s b.dat)) (hB : B ≤ w.heap.size) (hc : b.dat.length ≤ c) (hm : c ≤ maxLen) (hT : Tabs w) (r : Bool) (hr : r = true ↔ CRight b) :
    Calls Tryd.prog 46 #[cval b A c, .int .u64 k] w fun e w' => e = .returned (.int .i64 (flt b.ty k r)) ∧ Below w.heap.size w w' := by
  have HB0 := Lib.hid ((Below.refl w.heap.size w).alloc (Nat.le_refl _) (.cells #[.int .u64 b.ty, .int .u64 b.no, .int .u64 b.fl, .int .i64 b.sm, .slice A b.dat.length c] 46))
  have HK0 := Lib.hid (Blk.new w 46 #[.int .u64 b.ty, .int .u64 b.no, .int .u64 b.fl, .int .i64 b.sm, .slice A b.dat.length c])
  have CR := Lib.hid (fun (W : World) (h : Below w.heap.size w W) => cright_any b hb A B c W (hs.below (h.mono hB)) (Nat.le_trans hB h.size) hc hm (hT.below h (Nat.le_refl _)) r hr)
  clear hs hT hb hr
  have HFL := Lib.hid (show flt b.ty k r = if b.ty = k then (if r then 0 else 3) else 4 from rfl)
  generalize flt b.ty k r = fl at *
  obtain ⟨t, n, f, s, D⟩ := b
  simp only at *
  go_enter Tryd.func46, Tryd.ntmps46
  go_upto_region 1 with (fail)
  generalize w.alloc (.cells #[.int .u64 t, .int .u64 n, .int .u64 f, .int .i64 s, .slice A D.length c] 46) = w0 at *
  obtain ⟨k0, k1, k2, k3, k4⟩ := cells5 HK0.out
  by_cases h : t = k
  · subst h
    have d : (t != t) = false := by simp
    go_wp2_with fail
    refine (CR.out _ HB0.out).mono ?_
    rintro e w1 ⟨rfl, hb1⟩
    have HB1 := Lib.hid (below_next HB0.out HB0.out.size hb1)
    clear hb1
    cases r
    · have HF := Lib.hid (show fl = 3 by rw [HFL.out]; simp)
      go_wp2_with fail
      go_ret
      exact ⟨by rw [HF.out]; rfl, HB1.out⟩
    · have HF := Lib.hid (show fl = 0 by rw [HFL.out]; simp)
      go_wp2_with fail
      go_ret
      exact ⟨by rw [HF.out]; rfl, HB1.out⟩
  · have d : (t != k) = true := by simpa using h
    have HF := Lib.hid (show fl = 4 by rw [HFL.out, if_neg h])
    clear h HFL
    go_wp2_with fail
    go_ret
    exact ⟨by rw [HF.out]; rfl, HB0.out⟩

/-- What PreviousOf answers. -/
def PrevO (b : Cbk) (r : Bool) (e : Ending) : Prop :=
  (b.ty = 6 ∧ r = true → ∃ n, NameD b.dat n ∧ e = .returned (.tuple #[n.val, .int .i64 0])) ∧ (¬ (b.ty = 6 ∧ r = true) → e = .returned (.tuple #[zeroNm.val, .int .i64 (flt b.ty 6 r)]))
def AgesO (b : Cbk) (r : Bool) (e : Ending) : Prop :=
  (b.ty = 7 ∧ r = true → ∃ n, AgeD b.dat n ∧ e = .returned (.tuple #[.int .u64 n, .int .i64 0])) ∧ (¬ (b.ty = 7 ∧ r = true) → e = .returned (.tuple #[.int .u64 0, .int .i64 (flt b.ty 7 r)]))
def HopssO (b : Cbk) (r : Bool) (e : Ending) : Prop :=
  (b.ty = 10 ∧ r = true → ∃ l c, HopsD b.dat l c ∧ e = .returned (.tuple #[.int .u64 l, .int .u64 c, .int .i64 0])) ∧ (¬ (b.ty = 10 ∧ r = true) → e = .returned (.tuple #[.int .u64 0, .int .u64 0, .int .i64 (flt b.ty 10 r)]))
theorem flt_no {t k : Int} {r : Bool} (h : ¬ (t = k ∧ r = true)) : flt t k r ≠ 0 := by
  unfold flt
  by_cases e : t = k
  · rw [if_pos e]
    cases r
    · decide
    · exact absurd ⟨e, rfl⟩ h
  · rw [if_neg e]
    decide
theorem right_len {b : Cbk} (h : CRight b) : b.dat.length ≤ 200 := (cfit_all h.1).2.2.2.2

set_option maxRecDepth 100000 in
set_option maxHeartbeats 4000000 in
theorem ageOf_any (b : Cbk) (hb : St.bts b.dat) (A : Option Addr) (B c : Nat) (w : World) (hs : Lst w B A (u8s b.dat)) (hB : B ≤ w.heap.size) (hc : b.dat.length ≤ c) (hm : c ≤ maxLen) (hT : Tabs w) (r : Bool) (hr : r = true ↔ CRight b) :
    Calls Tryd.prog 23 #[cval b A c] w fun e w' => AgesO b r e ∧ Below w.heap.size w w' := by
  have HB0 := Lib.hid ((Below.refl w.heap.size w).alloc (Nat.le_refl _) (.cells #[.int .u64 b.ty, .int .u64 b.no, .int .u64 b.fl, .int .i64 b.sm, .slice A b.dat.length c] 46))
  have HK0 := Lib.hid (Blk.new w 46 #[.int .u64 b.ty, .int .u64 b.no, .int .u64 b.fl, .int .i64 b.sm, .slice A b.dat.length c])
  have CF := Lib.hid (fun (W : World) (h : Below w.heap.size w W) => fault_any b hb A B c 7 W (hs.below (h.mono hB)) (Nat.le_trans hB h.size) hc hm (hT.below h (Nat.le_refl _)) r hr)
  have CN := Lib.hid (fun (W : World) (h : Below w.heap.size w W) (hl : b.dat.length ≤ 200) => age_any A B c b.dat W (hs.below (h.mono hB)) (Nat.le_trans hB h.size) hb hc hm (by omega) (hT.below h (Nat.le_refl _)))
  have HR := Lib.hid hr
  clear hs hT hb hr
  go_enter Tryd.func23, Tryd.ntmps23
  go_upto_region 1 with (fail)
  generalize w.alloc (.cells #[.int .u64 b.ty, .int .u64 b.no, .int .u64 b.fl, .int .i64 b.sm, .slice A b.dat.length c] 46) = w0 at *
  obtain ⟨k0, k1, k2, k3, k4⟩ := cells5 HK0.out
  go_wp2_with fail
  refine (CF.out _ HB0.out).mono ?_
  rintro e w1 ⟨rfl, hb1⟩
  have HB1 := Lib.hid (below_next HB0.out HB0.out.size hb1)
  have HK1 := Lib.hid (HK0.out.next hb1)
  clear k0 k1 k2 k3 k4 hb1 CF HB0 HK0
  by_cases h : b.ty = 7 ∧ r = true
  · have hf : flt b.ty 7 r = 0 := by unfold flt; rw [if_pos h.1, if_pos h.2]
    have hcr := HR.out.1 h.2
    have hd := hcr.2.2.1 h.1
    have hlen := right_len hcr
    rw [hf]
    obtain ⟨k0, k1, k2, k3, k4⟩ := cells5 HK1.out
    have HH := Lib.hid h
    have HD := Lib.hid hd
    clear h hf hcr hd
    go_wp2_with fail
    refine (CN.out _ HB1.out hlen).mono ?_
    rintro e w2 ⟨⟨n, ok, rfl, hn, HN⟩, hb2⟩
    have HB2 := Lib.hid (below_next HB1.out HB1.out.size hb2)
    clear hb2
    cases ok
    · obtain ⟨m, hm⟩ := HD.out
      exact absurd hm (HN.out.2 rfl m)
    · have HND := Lib.hid (HN.out.1 rfl)
      go_wp2_with fail
      exact bodyPost_ret (v := .tuple #[.int .u64 n, .int .i64 0]) (by simp [results, Tryd.results23, go_sem]) rfl ⟨⟨fun _ => ⟨n, HND.out, rfl⟩, fun q => absurd HH.out q⟩, HB2.out⟩
  · have hf := flt_no h
    have hd : (flt b.ty 7 r != 0) = true := by simpa using hf
    have HH := Lib.hid h
    clear h hf
    go_wp2_with fail
    exact bodyPost_ret (v := .tuple #[.int .u64 0, .int .i64 (flt b.ty 7 r)]) (by simp [results, Tryd.results23, go_sem]) rfl ⟨⟨fun q => absurd q HH.out, fun _ => rfl⟩, HB1.out⟩

set_option maxRecDepth 100000 in
set_option maxHeartbeats 4000000 in
theorem hopsOf_any (b : Cbk) (hb : St.bts b.dat) (A : Option Addr) (B c : Nat) (w : World) (hs : Lst w B A (u8s b.dat)) (hB : B ≤ w.heap.size) (hc : b.dat.length ≤ c) (hm : c ≤ maxLen) (hT : Tabs w) (r : Bool) (hr : r = true ↔ CRight b) :
    Calls Tryd.prog 25 #[cval b A c] w fun e w' => HopssO b r e ∧ Below w.heap.size w w' := by
  have HB0 := Lib.hid ((Below.refl w.heap.size w).alloc (Nat.le_refl _) (.cells #[.int .u64 b.ty, .int .u64 b.no, .int .u64 b.fl, .int .i64 b.sm, .slice A b.dat.length c] 46))
  have HK0 := Lib.hid (Blk.new w 46 #[.int .u64 b.ty, .int .u64 b.no, .int .u64 b.fl, .int .i64 b.sm, .slice A b.dat.length c])
  have CF := Lib.hid (fun (W : World) (h : Below w.heap.size w W) => fault_any b hb A B c 10 W (hs.below (h.mono hB)) (Nat.le_trans hB h.size) hc hm (hT.below h (Nat.le_refl _)) r hr)
  have CN := Lib.hid (fun (W : World) (h : Below w.heap.size w W) (hl : b.dat.length ≤ 200) => hops_any A B c b.dat W (hs.below (h.mono hB)) (Nat.le_trans hB h.size) hb hc hm (by omega) (hT.below h (Nat.le_refl _)))
  have HR := Lib.hid hr
  clear hs hT hb hr
  go_enter Tryd.func25, Tryd.ntmps25
  go_upto_region 1 with (fail)
  generalize w.alloc (.cells #[.int .u64 b.ty, .int .u64 b.no, .int .u64 b.fl, .int .i64 b.sm, .slice A b.dat.length c] 46) = w0 at *
  obtain ⟨k0, k1, k2, k3, k4⟩ := cells5 HK0.out
  go_wp2_with fail
  refine (CF.out _ HB0.out).mono ?_
  rintro e w1 ⟨rfl, hb1⟩
  have HB1 := Lib.hid (below_next HB0.out HB0.out.size hb1)
  have HK1 := Lib.hid (HK0.out.next hb1)
  clear k0 k1 k2 k3 k4 hb1 CF HB0 HK0
  by_cases h : b.ty = 10 ∧ r = true
  · have hf : flt b.ty 10 r = 0 := by unfold flt; rw [if_pos h.1, if_pos h.2]
    have hcr := HR.out.1 h.2
    have hd := hcr.2.2.2 h.1
    have hlen := right_len hcr
    rw [hf]
    obtain ⟨k0, k1, k2, k3, k4⟩ := cells5 HK1.out
    have HH := Lib.hid h
    have HD := Lib.hid hd
    clear h hf hcr hd
    go_wp2_with fail
    refine (CN.out _ HB1.out hlen).mono ?_
    rintro e w2 ⟨⟨l, c', ok, rfl, HN⟩, hb2⟩
    have HB2 := Lib.hid (below_next HB1.out HB1.out.size hb2)
    clear hb2
    cases ok
    · obtain ⟨m, m', hm⟩ := HD.out
      exact absurd hm (HN.out.2 rfl m m')
    · have HND := Lib.hid (HN.out.1 rfl)
      go_wp2_with fail
      exact bodyPost_ret (v := .tuple #[.int .u64 l, .int .u64 c', .int .i64 0]) (by simp [results, Tryd.results25, go_sem]) rfl ⟨⟨fun _ => ⟨l, c', HND.out, rfl⟩, fun q => absurd HH.out q⟩, HB2.out⟩
  · have hf := flt_no h
    have hd : (flt b.ty 10 r != 0) = true := by simpa using hf
    have HH := Lib.hid h
    clear h hf
    go_wp2_with fail
    exact bodyPost_ret (v := .tuple #[.int .u64 0, .int .u64 0, .int .i64 (flt b.ty 10 r)]) (by simp [results, Tryd.results25, go_sem]) rfl ⟨⟨fun q => absurd q HH.out, fun _ => rfl⟩, HB1.out⟩

set_option maxRecDepth 100000 in
set_option maxHeartbeats 4000000 in
theorem prevOf_any (b : Cbk) (hb : St.bts b.dat) (A : Option Addr) (B c : Nat) (w : World) (hs : Lst w B A (u8s b.dat)) (hB : B ≤ w.heap.size) (hc : b.dat.length ≤ c) (hm : c ≤ maxLen) (hT : Tabs w) (r : Bool) (hr : r = true ↔ CRight b) :
    Calls Tryd.prog 21 #[cval b A c] w fun e w' => PrevO b r e ∧ Below w.heap.size w w' := by
  have HB0 := Lib.hid (((Below.refl w.heap.size w).alloc (Nat.le_refl _) (.cells #[.int .u64 b.ty, .int .u64 b.no, .int .u64 b.fl, .int .i64 b.sm, .slice A b.dat.length c] 46)).alloc (by simp) (.cells #[.bool false, .int .u64 0, .int .u64 0, .string ⟨#[]⟩, .string ⟨#[]⟩] 48))
  have HK0 := Lib.hid ((Blk.new w 46 #[.int .u64 b.ty, .int .u64 b.no, .int .u64 b.fl, .int .i64 b.sm, .slice A b.dat.length c]).alloc (.cells #[.bool false, .int .u64 0, .int .u64 0, .string ⟨#[]⟩, .string ⟨#[]⟩] 48))
  have hz := Blk.new (w.alloc (.cells #[.int .u64 b.ty, .int .u64 b.no, .int .u64 b.fl, .int .i64 b.sm, .slice A b.dat.length c] 46)) 48 #[.bool false, .int .u64 0, .int .u64 0, .string ⟨#[]⟩, .string ⟨#[]⟩]
  rw [World.size_alloc] at hz
  have HZ0 := Lib.hid hz
  clear hz
  have CF := Lib.hid (fun (W : World) (h : Below w.heap.size w W) => fault_any b hb A B c 6 W (hs.below (h.mono hB)) (Nat.le_trans hB h.size) hc hm (hT.below h (Nat.le_refl _)) r hr)
  have CN := Lib.hid (fun (W : World) (h : Below w.heap.size w W) (hl : b.dat.length ≤ 200) => name_any A B c b.dat W (hs.below (h.mono hB)) (Nat.le_trans hB h.size) hb hc hm (by omega) (hT.below h (Nat.le_refl _)))
  have HR := Lib.hid hr
  clear hs hT hb hr
  go_enter Tryd.func21, Tryd.ntmps21
  go_upto_region 1 with (fail)
  generalize (w.alloc (.cells #[.int .u64 b.ty, .int .u64 b.no, .int .u64 b.fl, .int .i64 b.sm, .slice A b.dat.length c] 46)).alloc (.cells #[.bool false, .int .u64 0, .int .u64 0, .string ⟨#[]⟩, .string ⟨#[]⟩] 48) = w0 at *
  obtain ⟨k0, k1, k2, k3, k4⟩ := cells5 HK0.out
  go_wp2_with fail
  refine (CF.out _ HB0.out).mono ?_
  rintro e w1 ⟨rfl, hb1⟩
  have HB1 := Lib.hid (below_next HB0.out HB0.out.size hb1)
  have HK1 := Lib.hid (HK0.out.next hb1)
  have HZ1 := Lib.hid (HZ0.out.next hb1)
  clear k0 k1 k2 k3 k4 hb1 CF HB0 HK0 HZ0
  by_cases h : b.ty = 6 ∧ r = true
  · have hf : flt b.ty 6 r = 0 := by unfold flt; rw [if_pos h.1, if_pos h.2]
    have hcr := HR.out.1 h.2
    have hd := hcr.2.1 h.1
    have hlen := right_len hcr
    rw [hf]
    obtain ⟨k0, k1, k2, k3, k4⟩ := cells5 HK1.out
    have HH := Lib.hid h
    have HD := Lib.hid hd
    clear h hf hcr hd
    go_wp2_with fail
    refine (CN.out _ HB1.out hlen).mono ?_
    rintro e w2 ⟨⟨n, ok, rfl, hn, HN⟩, hb2⟩
    cases ok
    · obtain ⟨m, hm⟩ := HD.out
      exact absurd hm (HN.out.2 rfl m)
    · have HND := Lib.hid (HN.out.1 rfl)
      clear HN HD hn
      obtain ⟨i, nn, s, h, d⟩ := n
      have HB3 := Lib.hid ((below_next HB1.out HB1.out.size hb2).alloc (Nat.le_trans HB1.out.size hb2.size) (.cells #[.bool i, .int .u64 nn, .int .u64 s, .string h, .string d] 48))
      have HK3 := Lib.hid (Blk.new w2 48 #[.bool i, .int .u64 nn, .int .u64 s, .string h, .string d])
      have HZ3 := Lib.hid ((HZ1.out.next hb2).alloc (.cells #[.bool i, .int .u64 nn, .int .u64 s, .string h, .string d] 48))
      clear hb2 HB1 HZ1 k0 k1 k2 k3 k4
      go_upto_region 5 with (fail)
      generalize w2.alloc (.cells #[.bool i, .int .u64 nn, .int .u64 s, .string h, .string d] 48) = W3 at *
      obtain ⟨c0, c1', c2', c3, c4⟩ := cells5 HK3.out
      obtain ⟨y0, y1, y2, y3, y4⟩ := cells5 HZ3.out
      obtain ⟨f0, f1, f2, f3, f4⟩ := froz5 HZ3.out
      have HK9 := Lib.hid (Eid.set5_blk HZ3.out (.bool i) (.int .u64 nn) (.int .u64 s) (.string h) (.string d))
      have HB9 := Lib.hid (Eid.set5_below HB3.out (Nat.le_succ _) (.bool i) (.int .u64 nn) (.int .u64 s) (.string h) (.string d))
      generalize hW9 : Eid.set5 W3 (w.heap.size + 1) (.bool i) (.int .u64 nn) (.int .u64 s) (.string h) (.string d) = W9 at HK9 HB9
      unfold Eid.set5 at hW9
      obtain ⟨q0, q1, q2, q3, q4⟩ := cells5 HK9.out
      go_wp2_with fail
      try rw [hW9]
      exact bodyPost_ret (v := .tuple #[.agg #[.bool i, .int .u64 nn, .int .u64 s, .string h, .string d], .int .i64 0]) (by simp [results, Tryd.results21, go_sem, q0, q1, q2, q3, q4]) rfl ⟨⟨fun _ => ⟨⟨i, nn, s, h, d⟩, HND.out, rfl⟩, fun q => absurd HH.out q⟩, HB9.out⟩
  · have hf := flt_no h
    have hd : (flt b.ty 6 r != 0) = true := by simpa using hf
    have HH := Lib.hid h
    clear h hf
    obtain ⟨y0, y1, y2, y3, y4⟩ := cells5 HZ1.out
    obtain ⟨f0, f1, f2, f3, f4⟩ := froz5 HZ1.out
    have HK9 := Lib.hid (Eid.set5_blk HZ1.out (.bool false) (.int .u64 0) (.int .u64 0) (.string ⟨#[]⟩) (.string ⟨#[]⟩))
    have HB9 := Lib.hid (Eid.set5_below HB1.out (Nat.le_succ _) (.bool false) (.int .u64 0) (.int .u64 0) (.string ⟨#[]⟩) (.string ⟨#[]⟩))
    generalize hW9 : Eid.set5 w1 (w.heap.size + 1) (.bool false) (.int .u64 0) (.int .u64 0) (.string ⟨#[]⟩) (.string ⟨#[]⟩) = W9 at HK9 HB9
    unfold Eid.set5 at hW9
    obtain ⟨q0, q1, q2, q3, q4⟩ := cells5 HK9.out
    go_wp2_with fail
    try rw [hW9]
    exact bodyPost_ret (v := .tuple #[zeroNm.val, .int .i64 (flt b.ty 6 r)]) (by simp [results, Tryd.results21, go_sem, q0, q1, q2, q3, q4]) rfl ⟨⟨fun q => absurd q HH.out, fun _ => rfl⟩, HB9.out⟩
end Go.Proofs.YthknkdphofjmhaaDoor.Can
