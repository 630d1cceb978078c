/- The contract of cbor.copyList and of cbor.List. -/
import Derived.Test.YthknkdphofjmhaaDoorZg4
import Derived.Deep.RegionHeld3
import Derived.Deep.DrawnRows
namespace Go.Proofs.YthknkdphofjmhaaDoor.CbList
open Go.RowKit Wd Cb CbCopy
attribute [local go_sem ↓] Go.wp_at_zero Go.wp_at_succ

theorem info_item : (Tryd.prog.info? 26).map (fun i => (i.zero, i.size, i.bytes)) = some (some (.agg #[.int .i64 0, .int .u64 0, .slice none 0 0, .slice none 0 0]), 4, 64) := by kernel_rfl

/-- Two cells of the k-th item are stored. -/
theorem row_set (done rest : List Value) (c0 c1 c2 c3 u v : Value) (k : Nat) (h : done.length = k * 4) :
    (((done ++ c0 :: c1 :: c2 :: c3 :: rest).toArray.setIfInBounds (k * 4 + 2) u).setIfInBounds (k * 4 + 3) v) = (done ++ [c0, c1, u, v] ++ rest).toArray := by
  apply Array.toList_inj.1
  simp [List.set_append, h]

mutual
/-- The greatest number of bytes that one item has. -/
def wide : Itm → Nat
  | .mk _ _ b l => max b.length (wides l)
def wides : List Itm → Nat
  | [] => 0
  | x :: l => max (wide x) (wides l)
end
theorem wide_sub (x : Itm) : wide x = max x.bs.length (wides x.sub) := by cases x; rfl
theorem wide_at : ∀ (l : List Itm) (k : Nat) (h : k < l.length), wide l[k] ≤ wides l
  | x :: l, 0, _ => by simp [wides]; omega
  | x :: l, k + 1, h => by
    have := wide_at l k (by simpa using h)
    simp [wides]; omega

/-- The cells of an item that are not the list's last. -/
theorem cut_at {w : World} {lo hi : Nat} {l : List Itm} {vs : List Value} (h : Reps w lo hi l vs) {k : Nat} (hk : k < l.length) :
    ∃ A c A' c', vs.drop (k * 4) = .int .i64 l[k].kind :: .int .u64 l[k].num :: .slice A l[k].bs.length c :: .slice A' l[k].sub.length c' :: vs.drop ((k + 1) * 4) ∧
      (-9223372036854775808 ≤ l[k].kind ∧ l[k].kind ≤ 9223372036854775807) ∧ (0 ≤ l[k].num ∧ l[k].num ≤ 18446744073709551615) ∧ St.bts l[k].bs ∧ l[k].bs.length ≤ c ∧ c ≤ maxLen ∧ Seg w lo hi A (u8s l[k].bs) ∧
      l[k].sub.length ≤ c' ∧ c' ≤ maxLen ∧ ItemsV w lo hi l[k].sub A' := by
  obtain ⟨A, c, A', c', e, h'⟩ := (h.get hk).open_
  refine ⟨A, c, A', c', ?_, h'⟩
  rw [← List.take_append_drop 4 (vs.drop (k * 4)), e, List.drop_drop, show k * 4 + 4 = (k + 1) * 4 by omega]
  rfl

theorem one_cells {w : World} {lo hi : Nat} : ∀ {l : List Itm} {vs : List Value}, Reps w lo hi l vs → ∀ u ∈ vs, u.oneCell' = true
  | [], vs, h, u, hu => by
    unfold Reps at h
    subst h
    simp at hu
  | x :: l, vs, h, u, hu => by
    unfold Reps at h
    obtain ⟨c, r, rfl, h1, h2⟩ := h
    rcases List.mem_append.1 hu with hu | hu
    · obtain ⟨A, n, A', n', rfl, _⟩ := h1.open_
      simp at hu
      rcases hu with rfl | rfl | rfl | rfl <;> rfl
    · exact one_cells h2 u hu

theorem copyList_nil (A : Option Addr) (c : Nat) (w : World) :
    Calls Tryd.prog 58 #[.slice A 0 c] w fun e w' => ∃ A', e = .returned (.slice A' 0 0) ∧ Hid (ItemsV w' w.heap.size w'.heap.size [] A') ∧ Below w.heap.size w w' := by
  obtain ⟨i0, hi0, hz0, hz1, hz2⟩ := info_parts info_item
  have HM : 0 + 0 ≤ maxLen := by omega
  go_enter Tryd.func58, Tryd.ntmps58
  go_wp2_with (first
    | (at_builtin
       refine wpList_append_seg _ rfl (.const (.slice none 0 0)) (.tmp 6) _ (by rfl) w.heap.size 26 i0 _ 64 Tryd.underlying24 hi0 hz0 4 hz1 hz2 rfl (by omega) (.slice none 0 0) 0 [] (by rfl) ⟨by simp, .inl ⟨rfl, rfl⟩⟩
         0 0 A 0 c [] (by rfl) rfl .nil (by simp) HM (by omega) (Nat.le_refl _) ?_
       intro v1 w1 hown1 hg1 hat1
       have HO1 := Lib.hid hown1
       have HB1 := Lib.hid ((Below.refl w.heap.size w).grown hg1 (Nat.le_refl _) (fun k hk => by simp [Value.ownBlock] at hk))
       clear hown1 hg1 hat1))
  obtain ⟨A1, c1, rfl, hc1, hm1⟩ := own_sl HO1.out
  refine (clip_items _ _ c1 _ hc1 hm1).mono ?_
  rintro e w2 ⟨rfl, rfl⟩
  go_wp2_with fail
  go_loopw [11] (fun i wr => i = .int .i64 0 ∧ Hid (Below w.heap.size w wr)) (fun i _ => 0)
  case atStart => exact ⟨rfl, HB1⟩
  case round =>
    obtain ⟨rfl, HW⟩ := hrel
    go_wp2_with fail
    go_ret
    exact ⟨A1, rfl, Lib.hid ItemsV.nil, HW.out⟩

set_option maxRecDepth 100000 in
set_option maxHeartbeats 1000000 in
theorem copyList_any (N : Nat) : ∀ (l : List Itm) (A : Option Addr) (B c : Nat) (w : World), deeps l ≤ N → ItemsV w 0 B l A → B ≤ w.heap.size → l.length ≤ c → c ≤ maxLen → wides l ≤ 100000000000000 → sizes l ≤ 2147483648 →
    Calls Tryd.prog 58 #[.slice A l.length c] w fun e w' =>
      ∃ A', e = .returned (.slice A' l.length l.length) ∧ Hid (ItemsV w' w.heap.size w'.heap.size l A') ∧ Below w.heap.size w w' := by
  obtain ⟨i0, hi0, hz0, hz1, hz2⟩ := info_parts info_item
  induction N with
  | zero =>
    intro l A B c w hN hI hB hc hm hw hs
    obtain rfl : l = [] := by
      cases l with
      | nil => rfl
      | cons x l => have := deep_pos x; simp [deeps] at hN; omega
    exact copyList_nil A c w
  | succ N ih =>
    intro l A B c w hN hI hB hc hm hw hs
    obtain ⟨vs, hseg, hreps⟩ := hI
    have hvl := hreps.length
    have hls := length_le_sizes l
    rcases Nat.eq_zero_or_pos l.length with hz | hz
    · obtain rfl : l = [] := List.eq_nil_of_length_eq_zero hz
      exact copyList_nil A c w
    · have HS := Lib.hid hseg
      have HR := Lib.hid hreps
      have HVL := Lib.hid hvl
      have h1c := one_cells hreps
      have H1 := Lib.hid h1c
      unfold maxLen at hm
      have HM : 0 + l.length ≤ maxLen := by unfold maxLen; omega
      have hzpos : (0 : Int) < (l.length : Int) := by omega
      clear hseg hreps hvl h1c
      go_enter Tryd.func58, Tryd.ntmps58
      go_wp2_with (first
        | (at_builtin
           refine wpList_append_seg _ rfl (.const (.slice none 0 0)) (.tmp 6) _ (by rfl) w.heap.size 26 i0 _ 64 Tryd.underlying24 hi0 hz0 4 hz1 hz2 rfl (by omega) (.slice none 0 0) 0 [] (by rfl) ⟨by simp, .inl ⟨rfl, rfl⟩⟩
             0 B A l.length c vs (by rfl) HVL.out HS.out H1.out HM (by omega) (Nat.le_refl _) ?_
           intro v1 w1 hown1 hg1 hat1
           have HO1 := Lib.hid hown1
           have HB1 := Lib.hid ((Below.refl w.heap.size w).grown hg1 (Nat.le_refl _) (fun k hk => by simp [Value.ownBlock] at hk))
           clear hown1 hg1 hat1))
      have ho := HO1.out
      rw [Nat.zero_add, List.nil_append] at ho
      rcases ho.2 with ⟨_, hzz⟩ | ⟨g, c1, cur, rfl, hgb, hblk, hc1, hm1, hcs, htk⟩
      · omega
      have HB2 : Hid (Blk w1 g 26 (vs ++ cur.toList.drop (l.length * 4)).toArray) := Lib.hid (by
        rw [← htk, List.take_append_drop]
        exact hblk)
      have hgl : g < w1.heap.size := Blk.lt (t := 26) hblk
      generalize cur.toList.drop (l.length * 4) = spare at *
      clear HO1 ho hblk htk hcs
      refine (clip_items _ _ c1 _ hc1 hm1).mono ?_
      rintro e w2 ⟨rfl, rfl⟩
      go_wp2_with fail
      go_loopw [11] (fun i wr => ∃ (k : Nat) (done : List Value), k ≤ l.length ∧ i = .int .i64 k ∧ w1.heap.size ≤ wr.heap.size ∧ Hid (Blk wr g 26 (done ++ vs.drop (k * 4) ++ spare).toArray) ∧ Hid (Reps wr (g + 1) wr.heap.size (l.take k) done) ∧ Hid (Below w.heap.size w wr)) (fun i _ => l.length - (intOf i).toNat)
      case atStart => exact ⟨0, [], by omega, rfl, Nat.le_refl _, by simpa using HB2, Lib.hid (by simpa using Reps.none_), HB1⟩
      case round =>
        obtain ⟨k, done, hk, rfl, hsz, HBk, HRk, HWk⟩ := hrel
        clear HB2 HB1
        by_cases hlt : k < l.length
        · obtain ⟨A1, n1, A2, n2, hcut, q1, q2, q3, q4, q5, q6, q7, q8, q9⟩ := cut_at HR.out hlt
          have hdl : done.length = k * 4 := by
            have := HRk.out.length
            rw [List.length_take, Nat.min_eq_left hk] at this
            exact this
          have hbk := HBk.out
          rw [hcut] at hbk
          have e0 : wr.cell? ⟨g, k * 4, none⟩ = some (.int .i64 l[k].kind) := by rw [hbk.cell]; simp [hdl]
          have e1 : wr.cell? ⟨g, k * 4 + 1, none⟩ = some (.int .u64 l[k].num) := by rw [hbk.cell]; simp [hdl]
          have e2 : wr.cell? ⟨g, k * 4 + 2, none⟩ = some (.slice A1 l[k].bs.length n1) := by rw [hbk.cell]; simp [hdl]
          have e3 : wr.cell? ⟨g, k * 4 + 3, none⟩ = some (.slice A2 l[k].sub.length n2) := by rw [hbk.cell]; simp [hdl]
          have HBL := Lib.hid hbk
          have HDL := Lib.hid hdl
          have hbs : l[k].bs.length ≤ 100000000000000 := by have h5 := wide_at l k hlt; have h6 := wide_sub l[k]; omega
          have hwd : wides l[k].sub ≤ 100000000000000 := by have h5 := wide_at l k hlt; have h6 := wide_sub l[k]; omega
          have hsd : sizes l[k].sub ≤ 2147483648 := by have h5 := size_at l k hlt; have h6 := size_sub l[k]; omega
          have hdp : deeps l[k].sub ≤ N := by have h5 := deep_at l k hlt; have h6 := deep_sub l[k]; omega
          clear hbk hcut hdl HBk
          have hgr : g < wr.heap.size := by omega
          go_wp2_with fail
          have HX0 := Lib.hid (Blk.new wr 26 #[.int .i64 l[k].kind, .int .u64 l[k].num, .slice A1 l[k].bs.length n1, .slice A2 l[k].sub.length n2])
          have HG0 := Lib.hid (HBL.out.alloc (.cells #[.int .i64 l[k].kind, .int .u64 l[k].num, .slice A1 l[k].bs.length n1, .slice A2 l[k].sub.length n2] 26))
          have HR0 := Lib.hid (HRk.out.keep (keep_alloc (Nat.le_refl _) (.cells #[.int .i64 l[k].kind, .int .u64 l[k].num, .slice A1 l[k].bs.length n1, .slice A2 l[k].sub.length n2] 26)))
          have HW0 := Lib.hid (HWk.out.alloc HWk.out.size (.cells #[.int .i64 l[k].kind, .int .u64 l[k].num, .slice A1 l[k].bs.length n1, .slice A2 l[k].sub.length n2] 26))
          have hz0 : (wr.alloc (.cells #[.int .i64 l[k].kind, .int .u64 l[k].num, .slice A1 l[k].bs.length n1, .slice A2 l[k].sub.length n2] 26)).heap.size = wr.heap.size + 1 := World.size_alloc _ _
          generalize wr.alloc (.cells #[.int .i64 l[k].kind, .int .u64 l[k].num, .slice A1 l[k].bs.length n1, .slice A2 l[k].sub.length n2] 26) = W0 at *
          have HZ0 := Lib.hid hz0
          have KP : ∀ W, Blk W wr.heap.size 26 #[.int .i64 l[k].kind, .int .u64 l[k].num, .slice A1 l[k].bs.length n1, .slice A2 l[k].sub.length n2] → W.cell? ⟨wr.heap.size, 2, none⟩ = some (.slice A1 l[k].bs.length n1) ∧ W.cell? ⟨wr.heap.size, 3, none⟩ = some (.slice A2 l[k].sub.length n2) :=
            fun W h => ⟨by simpa using h.cell 2, by simpa using h.cell 3⟩
          have HKP := Lib.hid KP
          have KQ : ∀ W, Blk W g 26 (done ++ (Value.int .i64 l[k].kind :: .int .u64 l[k].num :: .slice A1 l[k].bs.length n1 :: .slice A2 l[k].sub.length n2 :: vs.drop ((k + 1) * 4)) ++ spare).toArray → W.cell? ⟨g, k * 4 + 2, none⟩ = some (.slice A1 l[k].bs.length n1) := fun W h => by rw [h.cell]; simp [HDL.out]
          have KR : ∀ W, Blk W g 26 (done ++ (Value.int .i64 l[k].kind :: .int .u64 l[k].num :: .slice A1 l[k].bs.length n1 :: .slice A2 l[k].sub.length n2 :: vs.drop ((k + 1) * 4)) ++ spare).toArray → W.cell? ⟨g, k * 4 + 3, none⟩ = some (.slice A2 l[k].sub.length n2) := fun W h => by rw [h.cell]; simp [HDL.out]
          have HKQ := Lib.hid KQ
          have HKR := Lib.hid KR
          have hne : wr.heap.size ≠ g := by omega
          have HNE := Lib.hid hne
          have C1 := Lib.hid (fun (W : World) (hb : Below w.heap.size w W) => copyBytes_any A1 B n1 l[k].bs W (q6.lst.below' hb hB) (by have := hb.size; omega) hbs)
          have C2 := Lib.hid (fun (W : World) (hb : Below w.heap.size w W) => ih l[k].sub A2 B n2 W hdp (q9.below (hb.mono hB)) (by have := hb.size; omega) q7 q8 hwd hsd)
          have j0 : (0 : Int) ≤ (k : Int) := by omega
          have j1 : (k : Int) < (l.length : Int) := by omega
          clear KP KQ KR hne q6 q9 hz0 ih e0 e1 e2 e3
          go_region_held3 (fun w' => w'.cell? ⟨wr.heap.size, 2, none⟩ = some (.slice A1 l[k].bs.length n1) ∧ w'.cell? ⟨wr.heap.size, 3, none⟩ = some (.slice A2 l[k].sub.length n2))
            (first | exact HKP.out _ HX0.out.drew | exact HKP.out _ HX3.out | exact HKP.out _ HX4.out | exact HKP.out _ (HX4.out.far HNE.out _) | exact HKP.out _ ((HX4.out.far HNE.out _).far HNE.out _))
            (first | (go_at_call 70; refine (C1.out _ HW0.out.drew).mono ?_; rintro e w3 ⟨Ab, rfl, HSb, hb3⟩; have HX3 := Lib.hid (HX0.out.drew.next hb3); have HB3 := Lib.hid hb3; have HW3 := Lib.hid (below_next HW0.out.drew HW0.out.drew.size hb3); clear hb3) | (go_at_call 58; refine (C2.out _ HW3.out).mono ?_; rintro e w4 ⟨Al, rfl, HSl, hb4⟩; have HX4 := Lib.hid (HX3.out.next hb4); have HB4 := Lib.hid hb4; have HW4 := Lib.hid (below_next HW3.out HW3.out.size hb4); have HG4 := Lib.hid ((HG0.out.drew.next HB3.out).next hb4); have x2 : w4.cell? ⟨g, k * 4 + 2, none⟩ = some (.slice A1 l[k].bs.length n1) := HKQ.out _ HG4.out; have y2 : w4.frozen? ⟨g, k * 4 + 2, none⟩ = false := HG4.out.frozen _; have x3 : w4.cell? ⟨g, k * 4 + 3, none⟩ = some (.slice A2 l[k].sub.length n2) := HKR.out _ HG4.out; have y3 : w4.frozen? ⟨g, k * 4 + 3, none⟩ = false := HG4.out.frozen _; clear hb4))
          have hz3 := HB3.out.size
          have hz4 := HB4.out.size
          have hz0 : W0.drew.heap.size = wr.heap.size + 1 := HZ0.out
          have HZ5 : Hid (((w4.setCell ⟨g, k * 4 + 2, none⟩ (.slice Ab l[k].bs.length l[k].bs.length)).setCell ⟨g, k * 4 + 3, none⟩ (.slice Al l[k].sub.length l[k].sub.length)).heap.size = w4.heap.size) := Lib.hid (by simp [World.setCell])
          have HG5 : Hid (Blk ((w4.setCell ⟨g, k * 4 + 2, none⟩ (.slice Ab l[k].bs.length l[k].bs.length)).setCell ⟨g, k * 4 + 3, none⟩ (.slice Al l[k].sub.length l[k].sub.length)) g 26
              ((done ++ [Value.int .i64 l[k].kind, .int .u64 l[k].num, .slice Ab l[k].bs.length l[k].bs.length, .slice Al l[k].sub.length l[k].sub.length]) ++ vs.drop ((k + 1) * 4) ++ spare).toArray) := Lib.hid (by
            have h := (HG4.out.set_ (k * 4 + 2) (.slice Ab l[k].bs.length l[k].bs.length)).set_ (k * 4 + 3) (.slice Al l[k].sub.length l[k].sub.length)
            rw [List.append_assoc, List.cons_append, List.cons_append, List.cons_append, List.cons_append, row_set _ _ _ _ _ _ _ _ k HDL.out] at h
            rw [List.append_assoc (_ ++ _)]
            exact h)
          have HR5 : Hid (Reps ((w4.setCell ⟨g, k * 4 + 2, none⟩ (.slice Ab l[k].bs.length l[k].bs.length)).setCell ⟨g, k * 4 + 3, none⟩ (.slice Al l[k].sub.length l[k].sub.length)) (g + 1) w4.heap.size (l.take (k + 1))
              (done ++ [Value.int .i64 l[k].kind, .int .u64 l[k].num, .slice Ab l[k].bs.length l[k].bs.length, .slice Al l[k].sub.length l[k].sub.length])) := Lib.hid (by
            have h1 : Reps w4 (g + 1) w4.heap.size (l.take k) done := ((HR0.out.drew.below (HB3.out.mono (by omega))).below (HB4.out.mono (by omega))).more (Nat.le_refl _) (by omega)
            have h2 : Rep ((w4.setCell ⟨g, k * 4 + 2, none⟩ (.slice Ab l[k].bs.length l[k].bs.length)).setCell ⟨g, k * 4 + 3, none⟩ (.slice Al l[k].sub.length l[k].sub.length)) (g + 1) w4.heap.size l[k] [.int .i64 l[k].kind, .int .u64 l[k].num, .slice Ab l[k].bs.length l[k].bs.length, .slice Al l[k].sub.length l[k].sub.length] := by
              have s1 := (((HSb.out.below HB4.out).set_ (p := ⟨g, k * 4 + 2, none⟩) (.inl (by show g < _; omega)) (.slice Ab l[k].bs.length l[k].bs.length)).set_ (p := ⟨g, k * 4 + 3, none⟩) (.inl (by show g < _; omega)) (.slice Al l[k].sub.length l[k].sub.length)).more (lo' := g + 1) (hi' := w4.heap.size) (by omega) (by omega)
              have s2 := ((HSl.out.set_ (p := ⟨g, k * 4 + 2, none⟩) (.inl (by show g < _; omega)) (.slice Ab l[k].bs.length l[k].bs.length)).set_ (p := ⟨g, k * 4 + 3, none⟩) (.inl (by show g < _; omega)) (.slice Al l[k].sub.length l[k].sub.length)).more (lo' := g + 1) (hi' := w4.heap.size) (by omega) (by omega)
              have h := Rep.mk q1 q2 q3 (Nat.le_refl l[k].bs.length) (by unfold maxLen; omega) s1 (Nat.le_refl l[k].sub.length) (by have := length_le_sizes l[k].sub; unfold maxLen; omega) s2
              rw [← eta] at h
              exact h
            rw [take_snoc l k hlt]
            exact ((h1.keep (keep_set (.inl (Nat.lt_succ_self g)) _)).keep (keep_set (.inl (Nat.lt_succ_self g)) _)).append (Reps.one h2))
          have HW5 := Lib.hid ((HW4.out.setCell (p := ⟨g, k * 4 + 2, none⟩) hgb (.slice Ab l[k].bs.length l[k].bs.length)).setCell (p := ⟨g, k * 4 + 3, none⟩) hgb (.slice Al l[k].sub.length l[k].sub.length))
          clear HG4 HSb HSl HB3 HB4 HW4 HX3 HX4 HW3 HX0 HG0 HR0 HW0 x2 y2 x3 y3
          go_wp2_with fail
          go_roundw
          case rel => exact ⟨k + 1, _, by omega, by go_num, by have := HZ5.out; omega, HG5, by rw [HZ5.out]; exact HR5, HW5⟩
          case measure => simp [intOf]; omega
        · obtain rfl : k = l.length := by omega
          go_wp2_with fail
          go_ret
          have hrr := HRk.out
          have hdl := hrr.length
          rw [take_all] at hrr hdl
          refine ⟨some ⟨g, 0, none⟩, rfl, Lib.hid ⟨done, .inr ⟨g, 0, rfl, hgb, by omega, fun j hj => ?_⟩, hrr.more (by omega) (Nat.le_refl _)⟩, HWk.out⟩
          rw [Nat.zero_add, HBk.out.cell]
          simp [List.getElem?_append, hj]

set_option maxHeartbeats 400000 in
theorem list_any (l : List Itm) (A : Option Addr) (B c : Nat) (w : World) (hI : ItemsV w 0 B l A) (hB : B ≤ w.heap.size) (hc : l.length ≤ c) (hm : c ≤ maxLen) (hw : wides l ≤ 100000000000000) (hs : sizes l ≤ 2147483647) (hd : deeps l ≤ 65537) :
    Calls Tryd.prog 33 #[.slice A l.length c] w fun e w' =>
      ∃ A', e = .returned (.agg #[.int .i64 4, .int .u64 0, .slice none 0 0, .slice A' l.length l.length]) ∧ Hid (ItemsV w' w.heap.size w'.heap.size l A') ∧ Below w.heap.size w w' := by
  have hb0 : Below w.heap.size w ((w.alloc (.cells #[.int .i64 0, .int .u64 0, .slice none 0 0, .slice none 0 0] 26)).alloc (.cells #[.int .i64 2147483647] 3)) := ((Below.refl _ _).alloc (Nat.le_refl _) _).alloc (by simp) _
  have hI0 : ItemsV ((w.alloc (.cells #[.int .i64 0, .int .u64 0, .slice none 0 0, .slice none 0 0] 26)).alloc (.cells #[.int .i64 2147483647] 3)) 0 (w.heap.size + 1) l A := ((hI.more (Nat.le_refl _) hB).below hb0).more (Nat.le_refl _) (by omega)
  have hB1 : Blk ((w.alloc (.cells #[.int .i64 0, .int .u64 0, .slice none 0 0, .slice none 0 0] 26)).alloc (.cells #[.int .i64 2147483647] 3)) (w.heap.size + 1) 3 #[.int .i64 2147483647] := by
    have := Blk.new (w.alloc (.cells #[.int .i64 0, .int .u64 0, .slice none 0 0, .slice none 0 0] 26)) 3 #[.int .i64 2147483647]
    rwa [World.size_alloc] at this
  have hB0 : Blk ((w.alloc (.cells #[.int .i64 0, .int .u64 0, .slice none 0 0, .slice none 0 0] 26)).alloc (.cells #[.int .i64 2147483647] 3)) w.heap.size 26 #[.int .i64 0, .int .u64 0, .slice none 0 0, .slice none 0 0] := (Blk.new w _ _).alloc _
  have hz : ((w.alloc (.cells #[.int .i64 0, .int .u64 0, .slice none 0 0, .slice none 0 0] 26)).alloc (.cells #[.int .i64 2147483647] 3)).heap.size = w.heap.size + 2 := by simp
  have hfit : CbWithin.fits l 65537 2147483647 = true := by simp only [CbWithin.fits, decide_eq_true_eq]; omega
  have HF := Lib.hid hfit
  have C1 := Lib.hid (CbWithin.within_any (deeps l) l A c (w.heap.size + 1) 65537 2147483647 _ (Nat.le_refl _) hI0 hc hm hB1 (by omega) (by omega) (by omega) (by omega))
  have HB0 := Lib.hid hB0
  have HW0 := Lib.hid hb0
  have HZ := Lib.hid hz
  have C2 := Lib.hid (fun (W : World) (hb : Below w.heap.size w W) => copyList_any (deeps l) l A B c W (Nat.le_refl _) ((hI.below (hb.mono hB))) (by have := hb.size; omega) hc hm hw (by omega))
  clear hfit hI hI0 hB1 hB0 hb0 hz
  go_enter Tryd.func33, Tryd.ntmps33
  go_wp2_with fail
  refine C1.out.mono ?_
  rintro e w1 ⟨rfl, hb1, r, HBr, HFr⟩
  rw [HF.out]
  have HB1 := Lib.hid (HB0.out.below hb1 (by omega))
  have HW1 := Lib.hid (HW0.out.trans (hb1.mono (by omega)))
  have hz1 : w.heap.size + 2 ≤ w1.heap.size := by have := hb1.size; have := HZ.out; omega
  clear hb1 C1 HB0 HW0
  go_wp2_with fail
  refine (C2.out _ HW1.out).mono ?_
  rintro e w2 ⟨A2, rfl, HI2, hb2⟩
  have hbl := HB1.out.next hb2
  have c0 : w2.cell? ⟨w.heap.size, 0, none⟩ = some (.int .i64 0) := by simpa using hbl.cell 0
  have c1 : w2.cell? ⟨w.heap.size, 1, none⟩ = some (.int .u64 0) := by simpa using hbl.cell 1
  have c2 : w2.cell? ⟨w.heap.size, 2, none⟩ = some (.slice none 0 0) := by simpa using hbl.cell 2
  have c3 : w2.cell? ⟨w.heap.size, 3, none⟩ = some (.slice none 0 0) := by simpa using hbl.cell 3
  have f0 := hbl.frozen 0
  have f1 := hbl.frozen 1
  have f2 := hbl.frozen 2
  have f3 := hbl.frozen 3
  have HW2 := Lib.hid (below_next HW1.out HW1.out.size hb2)
  clear hb2 hbl
  go_wp2_with fail
  exact bodyPost_ret (v := .agg #[.int .i64 4, .int .u64 0, .slice none 0 0, .slice A2 l.length l.length]) (by simp [results, Tryd.results33, go_sem, c0, c1, c2, c3, f0, f1, f2, f3]) rfl
    ⟨A2, rfl, Lib.hid ((HI2.out.set4 (.inl (by omega)) _ _ _ _).more (by omega) (by simp [World.setCell])), below_set4 HW2.out (Nat.le_refl _) _ _ _ _⟩
end Go.Proofs.YthknkdphofjmhaaDoor.CbList
