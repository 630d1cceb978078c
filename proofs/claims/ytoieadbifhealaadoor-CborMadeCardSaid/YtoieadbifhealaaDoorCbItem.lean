/- The contract of the reader's item. -/
import Derived.Test.YtoieadbifhealaaDoorCbMany
namespace Go.Proofs.YtoieadbifhealaaDoor.CbItem
open Go.RowKit Wd Cb CbCopy CbRight CbWrite CbHead CbPiece CbBytes U8V CbList CbOpen CbMany
attribute [local go_sem ↓] Go.wp_at_zero Go.wp_at_succ

set_option maxRecDepth 100000 in
set_option maxHeartbeats 1000000 in
theorem item_form (g d : Nat) (m n : Int) (o : Bool) (w : World) (h : ¬ mayBe m) :
    Calls Tryd.prog 52 #[.pointer (some ⟨g, 0, none⟩), .agg #[.int .i64 m, .int .u64 n, .bool o], .int .i64 d] w fun e w' => e = fault 3 ∧ Below w.heap.size w w' := by
  have h0 : (m == 0) = false := by simp; intro e; exact h (.inl e)
  have h2 : (m == 2) = false := by simp; intro e; exact h (.inr (.inl e))
  have h3 : (m == 3) = false := by simp; intro e; exact h (.inr (.inr (.inl e)))
  have h4 : (m == 4) = false := by simp; intro e; exact h (.inr (.inr (.inr e)))
  have HB := Lib.hid (((Below.refl w.heap.size w).alloc (Nat.le_refl _) (.cells #[.int .i64 m, .int .u64 n, .bool o] 90)).alloc (by simp) (.cells #[.int .i64 0, .int .u64 0, .slice none 0 0, .slice none 0 0] 26))
  clear h
  go_enter Tryd.func52, Tryd.ntmps52
  go_wp2_with fail
  exact ⟨rfl, rfl, HB.out⟩
set_option maxRecDepth 100000 in
set_option maxHeartbeats 1000000 in
theorem item_deep (g d : Nat) (m n : Int) (o : Bool) (w : World) (h : mayBe m) (hd : 6 < d) (hd2 : d ≤ 7) :
    Calls Tryd.prog 52 #[.pointer (some ⟨g, 0, none⟩), .agg #[.int .i64 m, .int .u64 n, .bool o], .int .i64 d] w fun e w' => e = fault 9 ∧ Below w.heap.size w w' := by
  obtain rfl : d = 7 := by omega
  have HB := Lib.hid (((Below.refl w.heap.size w).alloc (Nat.le_refl _) (.cells #[.int .i64 m, .int .u64 n, .bool o] 90)).alloc (by simp) (.cells #[.int .i64 0, .int .u64 0, .slice none 0 0, .slice none 0 0] 26))
  clear hd hd2
  rcases h with rfl | rfl | rfl | rfl
  all_goals go_enter Tryd.func52, Tryd.ntmps52
  all_goals go_wp2_with fail
  all_goals exact ⟨rfl, rfl, HB.out⟩
set_option maxRecDepth 100000 in
set_option maxHeartbeats 1000000 in
theorem item_long (g d : Nat) (A : Option Addr) (c : Nat) (xs : List Int) (p : Int) (m n : Int) (o : Bool) (w : World) (hR : Rdr w g A c xs p 0) (h : mayBe m) (hd : d ≤ 6) :
    Calls Tryd.prog 52 #[.pointer (some ⟨g, 0, none⟩), .agg #[.int .i64 m, .int .u64 n, .bool o], .int .i64 d] w fun e w' => e = fault 2 ∧ Below w.heap.size w w' := by
  have HB := Lib.hid (((Below.refl w.heap.size w).alloc (Nat.le_refl _) (.cells #[.int .i64 m, .int .u64 n, .bool o] 90)).alloc (by simp) (.cells #[.int .i64 0, .int .u64 0, .slice none 0 0, .slice none 0 0] 26))
  have hdb : decide ((d : Int) > 6) = false := decide_eq_false (by omega)
  have hdc : decide ((6 : Int) < d) = false := decide_eq_false (by omega)
  obtain ⟨c0, c1, c2⟩ := ((hR.alloc (.cells #[.int .i64 m, .int .u64 n, .bool o] 90)).alloc (.cells #[.int .i64 0, .int .u64 0, .slice none 0 0, .slice none 0 0] 26)).cells
  clear hR
  rcases h with rfl | rfl | rfl | rfl
  all_goals go_enter Tryd.func52, Tryd.ntmps52
  all_goals go_wp2_with fail
  all_goals exact ⟨rfl, rfl, HB.out⟩
theorem blk_set4 {w : World} {k : Nat} {t : TypeId} {x y z u : Value} (h : Blk w k t #[x, y, z, u]) (a b c d : Value) : Blk ((((w.setCell ⟨k, 0, none⟩ a).setCell ⟨k, 1, none⟩ b).setCell ⟨k, 2, none⟩ c).setCell ⟨k, 3, none⟩ d) k t #[a, b, c, d] := by
  simpa using (((h.set_ 0 a).set_ 1 b).set_ 2 c).set_ 3 d
theorem blk_far4 {w : World} {k r : Nat} {t : TypeId} {cs : Array Value} (h : Blk w r t cs) (hr : r ≠ k) (a b c d : Value) : Blk ((((w.setCell ⟨k, 0, none⟩ a).setCell ⟨k, 1, none⟩ b).setCell ⟨k, 2, none⟩ c).setCell ⟨k, 3, none⟩ d) r t cs :=
  (((h.far (p := ⟨k, 0, none⟩) hr a).far (p := ⟨k, 1, none⟩) hr b).far (p := ⟨k, 2, none⟩) hr c).far (p := ⟨k, 3, none⟩) hr d
theorem blk_four {w : World} {g : Nat} {t : TypeId} {x y z u : Value} (h : Blk w g t #[x, y, z, u]) :
    (w.cell? ⟨g, 0, none⟩ = some x ∧ w.cell? ⟨g, 1, none⟩ = some y ∧ w.cell? ⟨g, 2, none⟩ = some z ∧ w.cell? ⟨g, 3, none⟩ = some u) ∧ (w.frozen? ⟨g, 0, none⟩ = false ∧ w.frozen? ⟨g, 1, none⟩ = false ∧ w.frozen? ⟨g, 2, none⟩ = false ∧ w.frozen? ⟨g, 3, none⟩ = false) :=
  ⟨⟨by simpa using h.cell 0, by simpa using h.cell 1, by simpa using h.cell 2, by simpa using h.cell 3⟩, h.frozen 0, h.frozen 1, h.frozen 2, h.frozen 3⟩
theorem grown4 {a w : World} {g b : Nat} (h : a.grownBy w (some g)) (hb : a.heap.size ≤ b) (x y z u : Value) : a.grownBy ((((w.setCell ⟨b, 0, none⟩ x).setCell ⟨b, 1, none⟩ y).setCell ⟨b, 2, none⟩ z).setCell ⟨b, 3, none⟩ u) (some g) :=
  only_own h (only_set4 (World.grownBy.refl _ _) _ _ _ _) hb

/-- The state behind the count, ahead of the second switch: the reader, the head's box, the answer's box. -/
structure Mid (w W : World) (g : Nat) (A : Option Addr) (c : Nat) (xs : List Int) (p left m n : Int) (o : Bool) : Prop where
  rdr : Rdr W g A c xs p (left - 1)
  hd : Blk W w.heap.size 90 #[.int .i64 m, .int .u64 n, .bool o]
  res : Blk W (w.heap.size + 1) 26 #[.int .i64 0, .int .u64 0, .slice none 0 0, .slice none 0 0]
  src : Src W g A c xs
  grown : w.grownBy W (some g)
  size : w.heap.size + 2 = W.heap.size
theorem mid_of {w : World} {g : Nat} {A : Option Addr} {c : Nat} {xs : List Int} {p left m n : Int} {o : Bool} (hR : Rdr w g A c xs p left) (hS : Src w g A c xs) :
    Mid w (((w.setCell ⟨g, 2, none⟩ (.int .i64 (left - 1))).alloc (.cells #[.int .i64 m, .int .u64 n, .bool o] 90)).alloc (.cells #[.int .i64 0, .int .u64 0, .slice none 0 0, .slice none 0 0] 26)) g A c xs p left m n o := by
  have hgl := hR.lt
  have hz0 : (w.setCell ⟨g, 2, none⟩ (.int .i64 (left - 1))).heap.size = w.heap.size := by simp [World.setCell]
  have hr : Rdr (w.setCell ⟨g, 2, none⟩ (.int .i64 (left - 1))) g A c xs p (left - 1) := by
    have h := Blk.set_ (show Blk w g 88 #[.slice A xs.length c, .int .i64 p, .int .i64 left] from hR) 2 (.int .i64 (left - 1))
    simpa [Rdr] using h
  have hg0 : w.grownBy (w.setCell ⟨g, 2, none⟩ (.int .i64 (left - 1))) (some g) := only_set (World.grownBy.refl _ _) rfl _
  generalize w.setCell ⟨g, 2, none⟩ (.int .i64 (left - 1)) = V at *
  have hz : (V.alloc (.cells #[.int .i64 m, .int .u64 n, .bool o] 90)).heap.size = w.heap.size + 1 := by rw [World.size_alloc, hz0]
  have hB0 := ((Below.refl V.heap.size V).alloc (Nat.le_refl _) (.cells #[.int .i64 m, .int .u64 n, .bool o] 90)).alloc (by omega) (.cells #[.int .i64 0, .int .u64 0, .slice none 0 0, .slice none 0 0] 26)
  have hg : w.grownBy ((V.alloc (.cells #[.int .i64 m, .int .u64 n, .bool o] 90)).alloc (.cells #[.int .i64 0, .int .u64 0, .slice none 0 0, .slice none 0 0] 26)) (some g) := only_trans hg0 (only_below hB0)
  refine ⟨hr.below hB0, ?_, ?_, hS.only hgl hg, hg, ?_⟩
  · rw [← hz0]
    exact (Blk.new V _ _).alloc _
  · have h := Blk.new (V.alloc (.cells #[.int .i64 m, .int .u64 n, .bool o] 90)) 26 #[.int .i64 0, .int .u64 0, .slice none 0 0, .slice none 0 0]
    rw [hz] at h
    exact h
  · rw [World.size_alloc, hz]

set_option maxRecDepth 100000 in
set_option maxHeartbeats 1000000 in
theorem item_num (g d : Nat) (A : Option Addr) (c : Nat) (xs : List Int) (p left : Int) (n : Int) (o : Bool) (w : World) (hR : Rdr w g A c xs p left) (hS : Src w g A c xs) (hd : d ≤ 6) (hl0 : 0 ≤ left) (hl1 : left ≤ 256) (hl : left ≠ 0) (hpx : p ≤ xs.length) (hn0 : 0 ≤ n) (hn1 : n ≤ 18446744073709551615) :
    Calls Tryd.prog 52 #[.pointer (some ⟨g, 0, none⟩), .agg #[.int .i64 0, .int .u64 n, .bool o], .int .i64 d] w fun e w' => ∃ r, ItemR xs d 0 n o p left r ∧ IOut w g A c xs p left e w' r := by
  have hdb : decide ((d : Int) > 6) = false := decide_eq_false (by omega)
  have hdc : decide ((6 : Int) < d) = false := decide_eq_false (by omega)
  have hlb : (left == 0) = false := by simpa using hl
  have hlw : IntKind.i64.wrap (left - 1) = left - 1 := by rw [IntKind.wrap_i64]; omega
  have hlp : 0 < left := by omega
  have hgl := hR.lt
  have HM := Lib.hid (mid_of (m := 0) (n := n) (o := o) hR hS)
  have hr0 := (hR.alloc (.cells #[.int .i64 0, .int .u64 n, .bool o] 90)).alloc (.cells #[.int .i64 0, .int .u64 0, .slice none 0 0, .slice none 0 0] 26)
  obtain ⟨c0, c1, c2⟩ := hr0.cells
  have f2 := hr0.frozen 2
  obtain ⟨k0, k1, k2⟩ := HM.out.hd.three
  have HI : Hid (ItemR xs d 0 n o p left (.ok (.mk 0 n [] []) p (left - 1))) := Lib.hid (.num hd hl)
  clear hR hr0 hS hl
  go_enter Tryd.func52, Tryd.ntmps52
  go_wp2_with fail
  generalize ((w.setCell ⟨g, 2, none⟩ (.int .i64 (left - 1))).alloc (.cells #[.int .i64 0, .int .u64 n, .bool o] 90)).alloc (.cells #[.int .i64 0, .int .u64 0, .slice none 0 0, .slice none 0 0] 26) = W1 at *
  refine (num_any n W1 hn0 hn1).mono ?_
  rintro e w2 ⟨rfl, hb2⟩
  have hres := HM.out.res.next hb2
  obtain ⟨⟨d0, d1, d2, d3⟩, e0, e1, e2, e3⟩ := blk_four hres
  have HG2 := Lib.hid (only_trans HM.out.grown (only_below hb2))
  have HR2 := Lib.hid (HM.out.rdr.below hb2)
  have hs2 := hb2.size
  clear hb2 hres
  go_wp2_with fail
  refine bodyPost_ret (v := .agg #[.int .i64 0, .int .u64 n, .slice none 0 0, .slice none 0 0]) (by simp [results, Tryd.results52, go_sem, d0, d1, d2, d3, e0, e1, e2, e3]) rfl ⟨_, HI.out, _, rfl, Lib.hid ?_, Lib.hid (blk_far4 HR2.out (by omega) _ _ _ _), Lib.hid (grown4 HG2.out (by omega) _ _ _ _), by omega, hpx, by omega, by omega⟩
  exact ItemV.mk (b := []) (l := []) (by omega) ⟨hn0, hn1⟩ (by intro x hx; cases hx) (Nat.le_refl _) (by simp) .nil (Nat.le_refl _) (by simp) .nil
/-- What a list's items are, behind its head. -/
def ListR (xs : List Int) (d : Nat) (n : Int) (o : Bool) (p left : Int) (r : Res (List Itm)) : Prop :=
  if o = true then OpenR xs d [] p left r else if (xs.length : Int) - p < n then r = .err 8 else ManyR xs d n.toNat [] p left r
theorem list_ok {xs : List Int} {d : Nat} {n : Int} {o : Bool} {p left p' l' : Int} {l : List Itm} (hd : d ≤ 6) (hl : left ≠ 0) (h : ListR xs d n o p (left - 1) (.ok l p' l')) : ItemR xs d 4 n o p left (.ok (.mk 4 0 [] l) p' l') := by
  unfold ListR at h
  cases o
  · simp only [Bool.false_eq_true, if_false] at h
    by_cases hn : (xs.length : Int) - p < n
    · rw [if_pos hn] at h
      cases h
    · rw [if_neg hn] at h
      exact .many hd hl hn h
  · simp only [if_true] at h
    exact .open_ hd hl h
theorem list_err {xs : List Int} {d : Nat} {n : Int} {o : Bool} {p left e : Int} (hd : d ≤ 6) (hl : left ≠ 0) (h : ListR xs d n o p (left - 1) (.err e)) : ItemR xs d 4 n o p left (.err e) := by
  unfold ListR at h
  cases o
  · simp only [Bool.false_eq_true, if_false] at h
    by_cases hn : (xs.length : Int) - p < n
    · rw [if_pos hn] at h
      injection h with h
      subst h
      exact .need hd hl hn
    · rw [if_neg hn] at h
      exact .manyE hd hl hn h
  · simp only [if_true] at h
    exact .openE hd hl h
theorem list_any (g : Nat) (A : Option Addr) (c : Nat) (xs : List Int) (d : Nat) (hd : d ≤ 6) (hI : ItemOk g A c xs (d + 1)) (p left m n : Int) (o : Bool) (w : World) (hR : Rdr w g A c xs p left) (hS : Src w g A c xs) (h0 : 0 ≤ p) (h1 : p ≤ xs.length) (hn0 : 0 ≤ n) (hl0 : 0 ≤ left) (hl1 : left ≤ 256) :
    Calls Tryd.prog 79 #[.pointer (some ⟨g, 0, none⟩), .agg #[.int .i64 m, .int .u64 n, .bool o], .int .i64 d] w fun e w' => ∃ r, ListR xs d n o p left r ∧ LOut w g A c xs p left e w' r := by
  cases o
  · by_cases hn : (xs.length : Int) - p < n
    · refine (list_need g A c xs d p left m n w hR hS h0 h1 hn0 hn).mono ?_
      rintro e w' ⟨rfl, hg⟩
      exact ⟨.err 8, by simp [ListR, hn], rfl, hg⟩
    · refine (list_many g A c xs d hd hI p left m n w hR hS h0 h1 hn0 hn hl0 hl1).mono ?_
      rintro e w' ⟨r, h, h'⟩
      exact ⟨r, by simpa only [ListR, Bool.false_eq_true, if_false, if_neg hn] using h, h'⟩
  · refine (list_open g A c xs d hd hI p left m n w hR hS hl0 hl1).mono ?_
    rintro e w' ⟨r, h, h'⟩
    exact ⟨r, by simpa only [ListR, if_true] using h, h'⟩

set_option maxRecDepth 100000 in
set_option maxHeartbeats 1000000 in
theorem item_list (g d : Nat) (A : Option Addr) (c : Nat) (xs : List Int) (p left : Int) (n : Int) (o : Bool) (w : World) (hR : Rdr w g A c xs p left) (hS : Src w g A c xs) (hd : d ≤ 6) (hI : ItemOk g A c xs (d + 1)) (hl0 : 0 ≤ left) (hl1 : left ≤ 256) (hl : left ≠ 0) (hp0 : 0 ≤ p) (hpx : p ≤ xs.length) (hn0 : 0 ≤ n) :
    Calls Tryd.prog 52 #[.pointer (some ⟨g, 0, none⟩), .agg #[.int .i64 4, .int .u64 n, .bool o], .int .i64 d] w fun e w' => ∃ r, ItemR xs d 4 n o p left r ∧ IOut w g A c xs p left e w' r := by
  have hdb : decide ((d : Int) > 6) = false := decide_eq_false (by omega)
  have hdc : decide ((6 : Int) < d) = false := decide_eq_false (by omega)
  have hlb : (left == 0) = false := by simpa using hl
  have hlw : IntKind.i64.wrap (left - 1) = left - 1 := by rw [IntKind.wrap_i64]; omega
  have hlp : 0 < left := by omega
  have hgl := hR.lt
  have HM := Lib.hid (mid_of (m := 4) (n := n) (o := o) hR hS)
  have hr0 := (hR.alloc (.cells #[.int .i64 4, .int .u64 n, .bool o] 90)).alloc (.cells #[.int .i64 0, .int .u64 0, .slice none 0 0, .slice none 0 0] 26)
  obtain ⟨c0, c1, c2⟩ := hr0.cells
  have f2 := hr0.frozen 2
  obtain ⟨k0, k1, k2⟩ := HM.out.hd.three
  have HL := Lib.hid hl
  clear hR hr0 hS hl
  go_enter Tryd.func52, Tryd.ntmps52
  go_wp2_with fail
  generalize ((w.setCell ⟨g, 2, none⟩ (.int .i64 (left - 1))).alloc (.cells #[.int .i64 4, .int .u64 n, .bool o] 90)).alloc (.cells #[.int .i64 0, .int .u64 0, .slice none 0 0, .slice none 0 0] 26) = W1 at *
  refine (list_any g A c xs d hd hI p (left - 1) 4 n o W1 HM.out.rdr HM.out.src hp0 hpx hn0 (by omega) (by omega)).mono ?_
  rintro e w2 ⟨r, hr, ho⟩
  have hs1 := HM.out.size
  cases r with
  | err e2 =>
    obtain ⟨rfl, HG2⟩ := ho
    unfold fault
    go_wp2_with fail
    exact ⟨rfl, _, list_err hd HL.out hr, rfl, Lib.hid (only_trans HM.out.grown HG2.out)⟩
  | ok l p2 l2 =>
    obtain ⟨A2, c2', rfl, hc2, hm2, HV, HR2, HG2, hp2, hp2', hl2, hl2'⟩ := ho
    have HIR := Lib.hid (list_ok hd HL.out hr)
    have hres := CbWrite.Blk.grown HM.out.res HG2.out (by simp; omega)
    obtain ⟨⟨d0, d1, d2, d3⟩, e0, e1, e2, e3⟩ := blk_four hres
    have HG2a := Lib.hid (only_trans HM.out.grown HG2.out)
    have hs2 := HG2.out.size
    clear hr hres c0 c1 c2 f2 k0 k1 k2 HM HG2
    go_wp2_with fail
    refine (clip_items A2 l.length c2' w2 hc2 hm2).mono ?_
    rintro e w3 ⟨rfl, rfl⟩
    go_wp2_with fail
    refine bodyPost_ret (v := .agg #[.int .i64 4, .int .u64 0, .slice none 0 0, .slice A2 l.length l.length]) (by simp [results, Tryd.results52, go_sem, d0, d1, d2, d3, e0, e1, e2, e3]) rfl ⟨_, HIR.out, _, rfl, Lib.hid ?_, Lib.hid (blk_far4 HR2.out (by omega) _ _ _ _), Lib.hid (grown4 HG2a.out (by omega) _ _ _ _), hp2, hp2', by omega, by omega⟩
    exact ItemV.mk (by omega) (by omega) (by intro x hx; cases hx) (Nat.le_refl _) (by simp) .nil (Nat.le_refl _) (by omega) ((HV.out.set4 (.inl (by omega)) _ _ _ _).more (by omega) (by simp [World.setCell]))
end Go.Proofs.YtoieadbifhealaaDoor.CbItem
