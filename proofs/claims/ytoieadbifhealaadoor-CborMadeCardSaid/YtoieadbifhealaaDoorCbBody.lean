/- The contract of the reader's item where it has bytes; and of item as a whole. -/
import Derived.Test.YtoieadbifhealaaDoorCbItem
import Derived.Deep.RegionHeld3
namespace Go.Proofs.YtoieadbifhealaaDoor.CbBody
open Go.RowKit Wd Cb CbCopy CbRight CbWrite CbHead CbPiece CbBytes U8V CbList CbOpen CbMany CbItem
attribute [local go_sem ↓] Go.wp_at_zero Go.wp_at_succ

theorem body_left {xs : List Int} {m n p left p' l' : Int} {o : Bool} {b : List Int} (hr : BodyR xs m n o p left (.ok b p' l')) : l' = left := by
  unfold BodyR at hr
  cases o
  · simp only [Bool.false_eq_true, if_false] at hr
    unfold piece at hr
    split at hr
    · cases hr
    · split at hr
      · cases hr
      · injection hr with _ _ h; exact h.symm
  · simp only [if_true] at hr
    exact chunks_left hr rfl

set_option maxRecDepth 100000 in
set_option maxHeartbeats 1000000 in
theorem item_body (g d : Nat) (A : Option Addr) (c : Nat) (xs : List Int) (p left : Int) (m n : Int) (o : Bool) (w : World) (hR : Rdr w g A c xs p left) (hS : Src w g A c xs) (hm : m = 2 ∨ m = 3) (hd : d ≤ 6) (hl0 : 0 ≤ left) (hl1 : left ≤ 256) (hl : left ≠ 0) (hp0 : 0 ≤ p) (hpx : p ≤ xs.length) (hn0 : 0 ≤ n) :
    Calls Tryd.prog 52 #[.pointer (some ⟨g, 0, none⟩), .agg #[.int .i64 m, .int .u64 n, .bool o], .int .i64 d] w fun e w' => ∃ r, ItemR xs d m n o p left r ∧ IOut w g A c xs p left e w' r := by
  have hdb : decide ((d : Int) > 6) = false := decide_eq_false (by omega)
  have hdc : decide ((6 : Int) < d) = false := decide_eq_false (by omega)
  have hlb : (left == 0) = false := by simpa using hl
  have hlw : IntKind.i64.wrap (left - 1) = left - 1 := by rw [IntKind.wrap_i64]; omega
  have hlp : 0 < left := by omega
  have hgl := hR.lt
  have HM := Lib.hid (mid_of (m := m) (n := n) (o := o) hR hS)
  have hr0 := (hR.alloc (.cells #[.int .i64 m, .int .u64 n, .bool o] 90)).alloc (.cells #[.int .i64 0, .int .u64 0, .slice none 0 0, .slice none 0 0] 26)
  obtain ⟨c0, c1, c2⟩ := hr0.cells
  have f2 := hr0.frozen 2
  obtain ⟨k0, k1, k2⟩ := HM.out.hd.three
  have HIE : Hid (∀ k, BodyR xs m n o p (left - 1) (.err k) → ItemR xs d m n o p left (.err k)) := Lib.hid (fun k h => .bodyE hm hd hl h)
  have HIK : Hid (∀ b p' l', BodyR xs m n o p (left - 1) (.ok b p' l') → ItemR xs d m n o p left (.ok (.mk m 0 b []) p' l')) := Lib.hid (fun b p' l' h => .body hm hd hl h)
  clear hR hr0 hS hl
  rcases hm with rfl | rfl
  all_goals go_enter Tryd.func52, Tryd.ntmps52
  all_goals go_wp2_with fail
  · generalize ((w.setCell ⟨g, 2, none⟩ (.int .i64 (left - 1))).alloc (.cells #[.int .i64 2, .int .u64 n, .bool o] 90)).alloc (.cells #[.int .i64 0, .int .u64 0, .slice none 0 0, .slice none 0 0] 26) = W1 at *
    have C1 := Lib.hid (bytes_any g A c xs p (left - 1) 2 n o W1.drew HM.out.rdr (HM.out.src.below ⟨rfl, rfl, rfl, Nat.le_refl _, fun _ _ => rfl⟩) hp0 hpx hn0)
    have HG1 := Lib.hid (only_drew HM.out.grown)
    have HK1 := Lib.hid HM.out.hd.drew
    have HZ1 := Lib.hid HM.out.res.drew
    have hs1 : w.heap.size + 2 = W1.drew.heap.size := HM.out.size
    have hne1 : some g ≠ some w.heap.size := by simp; omega
    have hne2 : some g ≠ some (w.heap.size + 1) := by simp; omega
    have HTH := Lib.hid (fun (W : World) (h : Blk W w.heap.size 90 #[.int .i64 2, .int .u64 n, .bool o]) => Blk.three h)
    have HFR := Lib.hid (fun (W : World) (h : Blk W (w.heap.size + 1) 26 #[.int .i64 0, .int .u64 0, .slice none 0 0, .slice none 0 0]) => blk_four h)
    clear k0 k1 k2 c0 c1 c2 f2
    obtain ⟨k0, k1, k2⟩ := HTH.out _ HK1.out
    go_region_with (first | (go_at_call 80; refine C1.out.mono ?_; rintro e w2 ⟨r, hr, ho⟩; rcases r with ⟨b, p2, l2⟩ | ⟨k⟩; rotate_left; (focus (obtain ⟨rfl, HG2⟩ := ho; unfold fault; go_wp2_with fail; exact ⟨rfl, _, HIE.out k hr, rfl, Lib.hid (only_trans HG1.out HG2.out)⟩)); obtain ⟨A2, cc2, rfl, hc2, hm2, HB2, HV2, HR2, HG2, hp2, hp2'⟩ := ho; have HIR := Lib.hid (HIK.out _ _ _ hr); have HLL := Lib.hid (body_left hr); have HK2 := Lib.hid (CbWrite.Blk.grown HK1.out HG2.out hne1); have HZ2 := Lib.hid (CbWrite.Blk.grown HZ1.out HG2.out hne2); have HG2a := Lib.hid (only_trans HG1.out HG2.out); have hs2 := HG2.out.size; obtain ⟨⟨d0, d1, d2, d3⟩, e0, e1, e2, e3⟩ := HFR.out _ HZ2.out; obtain ⟨q0, q1, q2⟩ := HTH.out _ HK2.out; clear hr HG2) | (go_at_call 42; refine (clip_bytes A2 b.length cc2 w2 hc2 hm2).mono ?_; rintro e w3 ⟨rfl, rfl⟩))
    all_goals go_wp2_with fail
    all_goals (refine bodyPost_ret (v := .agg #[.int .i64 2, .int .u64 0, .slice A2 b.length b.length, .slice none 0 0]) (by simp [results, Tryd.results52, go_sem, d0, d1, d2, d3, e0, e1, e2, e3]) rfl ⟨_, HIR.out, _, rfl, Lib.hid ?_, Lib.hid (blk_far4 HR2.out (by omega) _ _ _ _), Lib.hid (grown4 HG2a.out (by omega) _ _ _ _), hp2, hp2', by rw [HLL.out]; omega, by rw [HLL.out]; omega⟩)
    all_goals exact ItemV.mk (l := []) (by omega) (by omega) HB2.out (Nat.le_refl _) (by omega) ((HV2.out.set4 (.inl (by omega)) _ _ _ _).more (by omega) (by simp [World.setCell])) (Nat.le_refl _) (by simp) .nil
  · generalize ((w.setCell ⟨g, 2, none⟩ (.int .i64 (left - 1))).alloc (.cells #[.int .i64 3, .int .u64 n, .bool o] 90)).alloc (.cells #[.int .i64 0, .int .u64 0, .slice none 0 0, .slice none 0 0] 26) = W1 at *
    have C1 := Lib.hid (bytes_any g A c xs p (left - 1) 3 n o W1.drew HM.out.rdr (HM.out.src.below ⟨rfl, rfl, rfl, Nat.le_refl _, fun _ _ => rfl⟩) hp0 hpx hn0)
    have HG1 := Lib.hid (only_drew HM.out.grown)
    have HK1 := Lib.hid HM.out.hd.drew
    have HZ1 := Lib.hid HM.out.res.drew
    have hs1 : w.heap.size + 2 = W1.drew.heap.size := HM.out.size
    have hne1 : some g ≠ some w.heap.size := by simp; omega
    have hne2 : some g ≠ some (w.heap.size + 1) := by simp; omega
    have HTH := Lib.hid (fun (W : World) (h : Blk W w.heap.size 90 #[.int .i64 3, .int .u64 n, .bool o]) => Blk.three h)
    have HFR := Lib.hid (fun (W : World) (h : Blk W (w.heap.size + 1) 26 #[.int .i64 0, .int .u64 0, .slice none 0 0, .slice none 0 0]) => blk_four h)
    clear k0 k1 k2 c0 c1 c2 f2
    obtain ⟨k0, k1, k2⟩ := HTH.out _ HK1.out
    go_region_with (first | (go_at_call 80; refine C1.out.mono ?_; rintro e w2 ⟨r, hr, ho⟩; rcases r with ⟨b, p2, l2⟩ | ⟨k⟩; rotate_left; (focus (obtain ⟨rfl, HG2⟩ := ho; unfold fault; go_wp2_with fail; exact ⟨rfl, _, HIE.out k hr, rfl, Lib.hid (only_trans HG1.out HG2.out)⟩)); obtain ⟨A2, cc2, rfl, hc2, hm2, HB2, HV2, HR2, HG2, hp2, hp2'⟩ := ho; have HIR := Lib.hid (HIK.out _ _ _ hr); have HLL := Lib.hid (body_left hr); have HK2 := Lib.hid (CbWrite.Blk.grown HK1.out HG2.out hne1); have HZ2 := Lib.hid (CbWrite.Blk.grown HZ1.out HG2.out hne2); have HG2a := Lib.hid (only_trans HG1.out HG2.out); have hs2 := HG2.out.size; obtain ⟨⟨d0, d1, d2, d3⟩, e0, e1, e2, e3⟩ := HFR.out _ HZ2.out; obtain ⟨q0, q1, q2⟩ := HTH.out _ HK2.out; clear hr HG2) | (go_at_call 42; refine (clip_bytes A2 b.length cc2 w2 hc2 hm2).mono ?_; rintro e w3 ⟨rfl, rfl⟩))
    all_goals go_wp2_with fail
    all_goals (refine bodyPost_ret (v := .agg #[.int .i64 3, .int .u64 0, .slice A2 b.length b.length, .slice none 0 0]) (by simp [results, Tryd.results52, go_sem, d0, d1, d2, d3, e0, e1, e2, e3]) rfl ⟨_, HIR.out, _, rfl, Lib.hid ?_, Lib.hid (blk_far4 HR2.out (by omega) _ _ _ _), Lib.hid (grown4 HG2a.out (by omega) _ _ _ _), hp2, hp2', by rw [HLL.out]; omega, by rw [HLL.out]; omega⟩)
    all_goals exact ItemV.mk (l := []) (by omega) (by omega) HB2.out (Nat.le_refl _) (by omega) ((HV2.out.set4 (.inl (by omega)) _ _ _ _).more (by omega) (by simp [World.setCell])) (Nat.le_refl _) (by simp) .nil

/-- Item at every depth. -/
theorem item_any (g : Nat) (A : Option Addr) (c : Nat) (xs : List Int) (N : Nat) : ∀ d : Nat, d ≤ 7 → 7 - d ≤ N → ItemOk g A c xs d := by
  induction N with
  | zero =>
    intro d hd hN m n o p left w hR hS hp0 hpx hn0 hn1 hl0 hl1
    obtain rfl : d = 7 := by omega
    by_cases hm : mayBe m
    · refine (item_deep g 7 m n o w hm (by omega) (by omega)).mono ?_
      rintro e w' ⟨rfl, hb⟩
      exact ⟨_, .deep hm (by omega), rfl, Lib.hid (only_below hb)⟩
    · refine (item_form g 7 m n o w hm).mono ?_
      rintro e w' ⟨rfl, hb⟩
      exact ⟨_, .form hm, rfl, Lib.hid (only_below hb)⟩
  | succ N ih =>
    intro d hd hN m n o p left w hR hS hp0 hpx hn0 hn1 hl0 hl1
    by_cases hm : mayBe m
    · by_cases hd6 : 6 < d
      · refine (item_deep g d m n o w hm hd6 hd).mono ?_
        rintro e w' ⟨rfl, hb⟩
        exact ⟨_, .deep hm hd6, rfl, Lib.hid (only_below hb)⟩
      · by_cases hl : left = 0
        · subst hl
          refine (item_long g d A c xs p m n o w hR hm (by omega)).mono ?_
          rintro e w' ⟨rfl, hb⟩
          exact ⟨_, .long hm (by omega), rfl, Lib.hid (only_below hb)⟩
        · rcases hm with rfl | rfl | rfl | rfl
          · exact item_num g d A c xs p left n o w hR hS (by omega) hl0 hl1 hl hpx hn0 hn1
          · exact item_body g d A c xs p left 2 n o w hR hS (.inl rfl) (by omega) hl0 hl1 hl hp0 hpx hn0
          · exact item_body g d A c xs p left 3 n o w hR hS (.inr rfl) (by omega) hl0 hl1 hl hp0 hpx hn0
          · exact item_list g d A c xs p left n o w hR hS (by omega) (ih (d + 1) (by omega) (by omega)) hl0 hl1 hl hp0 hpx hn0
    · refine (item_form g d m n o w hm).mono ?_
      rintro e w' ⟨rfl, hb⟩
      exact ⟨_, .form hm, rfl, Lib.hid (only_below hb)⟩
end Go.Proofs.YtoieadbifhealaaDoor.CbBody
