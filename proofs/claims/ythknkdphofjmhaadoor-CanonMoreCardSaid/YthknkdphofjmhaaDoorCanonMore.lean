/- The statement CanonMore: the walk. -/
import Derived.Test.YthknkdphofjmhaaDoorZgl
namespace Go.Proofs.YthknkdphofjmhaaDoor.CanonMore
open Go.RowKit Wd Cb Eid EncB Prim CbCopy CbList CbRight CbWrite CbSame CbRead CbShort CbLays CbOpen Can

theorem says_of {b : Cbk} (h : CRight b) (ht : b.ty = 6 ∨ b.ty = 7 ∨ b.ty = 10) : ∃ x, Says b.dat x := by
  obtain ⟨_, h1, h2, h3⟩ := h
  rcases ht with e | e | e
  · obtain ⟨n, hn⟩ := h1 e
    exact ⟨_, hn.2.2⟩
  · obtain ⟨n, hn⟩ := h2 e
    exact ⟨_, hn.2⟩
  · obtain ⟨l, c, hn⟩ := h3 e
    exact ⟨_, hn.2⟩
theorem more_not {b : Cbk} {ys : List Int} (h : CRight b) (ht : b.ty = 6 ∨ b.ty = 7 ∨ b.ty = 10) (hy : ys ≠ []) (hl : b.dat.length + ys.length ≤ 100000) : ¬ CRight ⟨b.ty, b.no, b.fl, b.sm, b.dat ++ ys⟩ := fun q => by
  obtain ⟨x, hx⟩ := says_of h ht
  obtain ⟨y, hy'⟩ := says_of q ht
  exact hy (says_det (by omega) hx hy').2
theorem cut_not {b : Cbk} {k : Nat} (h : CRight b) (ht : b.ty = 6 ∨ b.ty = 7 ∨ b.ty = 10) (hk : k < b.dat.length) (hl : b.dat.length ≤ 100000) : ¬ CRight ⟨b.ty, b.no, b.fl, b.sm, b.dat.take k⟩ := fun q => by
  obtain ⟨x, hx⟩ := says_of h ht
  obtain ⟨y, hy⟩ := says_of q ht
  have e : b.dat = b.dat.take k ++ b.dat.drop k := (List.take_append_drop k b.dat).symm
  rw [e] at hx
  have h2 := (says_det (by rw [List.length_take, List.length_drop]; omega) hy hx).2
  have h3 := congrArg List.length h2
  rw [List.length_drop, List.length_nil] at h3
  omega
theorem two_first {W : World} {t : TypeId} {a b : Array Value} : Blk ((W.alloc (.cells a t)).alloc (.cells b t)) W.heap.size t a ∧ Blk ((W.alloc (.cells a t)).alloc (.cells b t)) (W.heap.size + 1) t b := by
  refine ⟨(Blk.new W t a).alloc _, ?_⟩
  have h := Blk.new (W.alloc (.cells a t)) t b
  rwa [World.size_alloc] at h

set_option maxRecDepth 100000 in
set_option maxHeartbeats 8000000 in
theorem walk (b : Cbk) (A : Option Addr) (c : Nat) (A' : Option Addr) (c' : Nat) (ys : List Int) (cut : Int) (w : World) (hb : b.ok) (hc : b.dat.length ≤ c) (hm : c ≤ maxLen) (hs : Lst w w.heap.size A (u8s b.dat))
    (hl' : ys.length ≤ c') (hm' : c' ≤ maxLen) (hs' : Lst w w.heap.size A' (u8s ys)) (hb' : St.bts ys) (hcut : -9223372036854775808 ≤ cut ∧ cut ≤ 9223372036854775807) (hT : Tabs w ∧ Sz w) :
    Calls Tryd.prog 5 #[cval b A c, .slice A' ys.length c', .int .i64 cut] w fun e w' => e = .returned (.bool true) ∧ Below w.heap.size w w' := by
  have HTW := Lib.hid (fun (W : World) (h : Below w.heap.size w W) => And.intro (hT.1.below h (Nat.le_refl _)) (hT.2.below h (Nat.le_refl _)))
  have CAl := Lib.hid (fun (W : World) (h : Below w.heap.size w W) => alive07_any W (HTW.out W h).1 (HTW.out W h).2)
  have HSD := Lib.hid (fun (W : World) (h : Below w.heap.size w W) => hs.below h)
  have HSY := Lib.hid (fun (W : World) (h : Below w.heap.size w W) => hs'.below h)
  obtain ⟨r, hr⟩ := bool_of (CRight b)
  have CR := Lib.hid (fun (W : World) (h : Below w.heap.size w W) => cright_any b hb.d A w.heap.size c W (hs.below h) h.size hc hm (HTW.out W h).1 r hr)
  have HMN := Lib.hid (fun h1 h2 h3 h4 => more_not (b := b) (ys := ys) h1 h2 h3 h4)
  have HCN := Lib.hid (fun k h1 h2 h3 h4 => cut_not (b := b) (k := k) h1 h2 h3 h4)
  have HR := Lib.hid hr
  have HD := Lib.hid hb.d
  have HY := Lib.hid hb'
  clear hT hs hs' hr hb hb'
  obtain ⟨t, n, f, s, D⟩ := b
  simp only at *
  have HB0 := Lib.hid ((Below.refl w.heap.size w).alloc (Nat.le_refl _) (.cells #[.int .u64 t, .int .u64 n, .int .u64 f, .int .i64 s, .slice A D.length c] 46))
  have HK0 := Lib.hid (Blk.new w 46 #[.int .u64 t, .int .u64 n, .int .u64 f, .int .i64 s, .slice A D.length c])
  go_enter Tryd.func5, Tryd.ntmps5
  go_upto_region 1 with (fail)
  generalize w.alloc (.cells #[.int .u64 t, .int .u64 n, .int .u64 f, .int .i64 s, .slice A D.length c] 46) = w0 at *
  obtain ⟨k0, k1, k2, k3, k4⟩ := cells5 HK0.out
  go_cut [42] from 9 (fun p42 wx => ∃ q : Bool, p42 = .bool q ∧ Hid (Below w.heap.size w wx) ∧ Hid (Blk wx w.heap.size 46 #[.int .u64 t, .int .u64 n, .int .u64 f, .int .i64 s, .slice A D.length c]) ∧
    Hid (q = false → (¬ (400 : Int) < D.length ∧ ¬ (ys.length : Int) < 1 ∧ ¬ (100 : Int) < ys.length) ∧ CRight ⟨t, n, f, s, D⟩ ∧ (t = 6 ∨ t = 7 ∨ t = 10)))
  case first =>
    obtain ⟨k0, k1, k2, k3, k4⟩ := cells5 HK0.out
    by_cases h1 : (400 : Int) < D.length
    · have d1 : decide ((400 : Int) < D.length) = true := decide_eq_true h1
      go_wp2_with fail
      go_meet
      exact ⟨_, rfl, HB0, HK0, Lib.hid (fun e => by cases e)⟩
    have d1 : decide ((400 : Int) < D.length) = false := decide_eq_false h1
    by_cases h2 : (ys.length : Int) < 1
    · have d2 : decide ((ys.length : Int) < 1) = true := decide_eq_true h2
      go_wp2_with fail
      go_meet
      exact ⟨_, rfl, HB0, HK0, Lib.hid (fun e => by cases e)⟩
    have d2 : decide ((ys.length : Int) < 1) = false := decide_eq_false h2
    by_cases h3 : (100 : Int) < ys.length
    · have d3 : decide ((100 : Int) < ys.length) = true := decide_eq_true h3
      go_wp2_with fail
      go_meet
      exact ⟨_, rfl, HB0, HK0, Lib.hid (fun e => by cases e)⟩
    have d3 : decide ((100 : Int) < ys.length) = false := decide_eq_false h3
    go_wp2_with fail
    refine (CR.out _ HB0.out).mono ?_
    rintro e w1 ⟨rfl, hb1⟩
    have HB1 := Lib.hid (below_next HB0.out HB0.out.size hb1)
    have HK1 := Lib.hid (HK0.out.next hb1)
    clear k0 k1 k2 k3 k4 hb1 CR HB0 HK0
    obtain ⟨k0, k1, k2, k3, k4⟩ := cells5 HK1.out
    cases r
    · go_wp2_with fail
      go_meet
      exact ⟨_, rfl, HB1, HK1, Lib.hid (fun e => by cases e)⟩
    have hcr := Lib.hid (HR.out.1 rfl)
    have H123 := Lib.hid (And.intro h1 (And.intro h2 h3))
    clear h1 h2 h3
    by_cases t6 : t = 6
    · subst t6
      go_wp2_with fail
      go_meet
      exact ⟨_, rfl, HB1, HK1, Lib.hid (fun _ => ⟨H123.out, hcr.out, .inl (by first | rfl | trivial)⟩)⟩
    have n6 : (t != 6) = true := by simpa using t6
    by_cases t7 : t = 7
    · subst t7
      go_wp2_with fail
      go_meet
      exact ⟨_, rfl, HB1, HK1, Lib.hid (fun _ => ⟨H123.out, hcr.out, .inr (.inl (by first | rfl | trivial))⟩)⟩
    have n7 : (t != 7) = true := by simpa using t7
    by_cases t10 : t = 10
    · subst t10
      go_wp2_with fail
      go_meet
      exact ⟨_, rfl, HB1, HK1, Lib.hid (fun _ => ⟨H123.out, hcr.out, .inr (.inr (by first | rfl | trivial))⟩)⟩
    have n10 : (t != 10) = true := by simpa using t10
    clear t6 t7 t10
    go_wp2_with fail
    go_meet
    exact ⟨_, rfl, HB1, HK1, Lib.hid (fun e => by cases e)⟩
  obtain ⟨q, rfl, HB1, HK1, HQ⟩ := hcut
  clear HR CR HB0 HK0
  cases q
  · obtain ⟨⟨h1, h2, h3⟩, hcr, ht⟩ := HQ.out rfl
    have HNM := Lib.hid (HMN.out hcr ht (by intro e; rw [e] at h2; simp at h2) (by omega))
    have HNC := Lib.hid (fun k hk => HCN.out k hcr ht hk (by omega))
    have HCR := Lib.hid hcr
    clear HMN HCN hcr ht HQ
    go_upto_region 3 with (fail)
    generalize wc = W at *
    go_cut [7, 8] from 9 (fun p7 p8 wx => ∃ m7 m8 : Nat, p7 = .pointer (some ⟨m7, 0, none⟩) ∧ p8 = .pointer (some ⟨m8, 0, none⟩) ∧ W.heap.size ≤ m7 ∧ W.heap.size ≤ m8 ∧ m7 ≠ m8 ∧ Hid (Blk wx m7 46 #[.int .u64 t, .int .u64 n, .int .u64 f, .int .i64 s, .slice A D.length c]) ∧ Hid (Blk wx m8 46 #[.int .u64 t, .int .u64 n, .int .u64 f, .int .i64 s, .slice A D.length c]) ∧ Hid (Below W.heap.size W wx))
    case first =>
      have KC := Lib.hid (fun (W' : World) (h : Below W.heap.size W W') => cells5 (HK1.out.next h))
      go_region_held3 (fun w' => w'.cell? ⟨w.heap.size, 0, none⟩ = some (.int .u64 t) ∧ w'.cell? ⟨w.heap.size, 1, none⟩ = some (.int .u64 n) ∧ w'.cell? ⟨w.heap.size, 2, none⟩ = some (.int .u64 f) ∧ w'.cell? ⟨w.heap.size, 3, none⟩ = some (.int .i64 s) ∧ w'.cell? ⟨w.heap.size, 4, none⟩ = some (.slice A D.length c))
        (exact KC.out _ (by repeat' (first | with_reducible exact Below.refl _ _ | with_reducible refine bel_drew ?_ | with_reducible refine bel_alloc ?_ _ | (refine bel_set ?_ ?_ _ <;> first | (simp; done) | omega | skip))))
        (fail)
      all_goals
        go_wp2_with fail
        go_meet
        first
          | exact ⟨_, _, rfl, rfl, by omega, by omega, by omega, Lib.hid (two_first.1), Lib.hid (two_first.2), Lib.hid (bel_drew (bel_alloc (bel_alloc (Below.refl _ _) _) _))⟩
          | exact ⟨_, _, rfl, rfl, by omega, by omega, by omega, Lib.hid (two_first.2), Lib.hid (two_first.1), Lib.hid (bel_drew (bel_alloc (bel_alloc (Below.refl _ _) _) _))⟩
    obtain ⟨m7, m8, rfl, rfl, hm7, hm8, hm78, HX7, HX8, HBw⟩ := hcut
    generalize wc = V at *
    have HB2 := Lib.hid (below_next HB1.out HB1.out.size HBw.out)
    have HK2 := Lib.hid (HK1.out.next HBw.out)
    have hwW : w.heap.size < W.heap.size := HK1.out.lt
    have hWV : W.heap.size ≤ V.heap.size := HBw.out.size
    have h7V : m7 < V.heap.size := HX7.out.lt
    have h8V : m8 < V.heap.size := HX8.out.lt
    clear HB1 HK1 HBw
    have k4 := (cells5 (HK2.out.alloc (.cells #[] 5))).2.2.2.2
    obtain ⟨i0, z0, hi0, hz0, hz1', hz2', hz3⟩ : ∃ i z, Tryd.prog.info? 5 = some i ∧ i.zero = some z ∧ i.size = 1 ∧ z.cells.size = 1 ∧ i.bytes = 1 := ⟨_, _, rfl, rfl, rfl, rfl, rfl⟩
    have HMX := Lib.hid (show ∀ k, k ≤ 2000000 → k ≤ maxLen from fun k hk => by unfold maxLen; omega)
    have HSV := Lib.hid (HSD.out V HB2.out)
    have HYV := Lib.hid (HSY.out V HB2.out)
    clear HSD HSY
    have b7 : (m7 == V.heap.size) = false := by simp; omega
    go_upto_region 5 with (first
      | (at_builtin
         refine wpList_append_lst _ rfl (.tmp 46) (.tmp 48) _ (by rfl) V.heap.size 5 i0 _ 1 Tryd.underlying23 hi0 hz0 hz1' hz3 hz2' (.slice (some ⟨V.heap.size, 0, none⟩) 0 0) 0 [] (by rfl)
           (World.ownsRow_lit V #[] 0 (Nat.le_refl _) (HMX.out 0 (by omega)) rfl) w.heap.size A D.length c (u8s D) (by rfl) (by simp) (HSV.out.below (((Below.refl V.heap.size V).alloc (Nat.le_refl _) _).mono (by omega))) (u8_one D) (HMX.out _ (by omega)) (by omega) (by simp) ?_
         intro v2 w3 hown2 hg2 hat2
         have hb2 : Below V.heap.size V w3 := ((Below.refl _ _).alloc (Nat.le_refl _) _).grown hg2 (by simp) (fun k hk => by simp [Value.ownBlock] at hk; omega)
         have hat2' : ∀ k, v2.ownBlock = some k → V.heap.size ≤ k := fun k hk => by rcases hat2 with e | e <;> rw [e] at hk <;> simp [Value.ownBlock] at hk <;> omega
         have HO2 := Lib.hid hown2
         have HB3 := Lib.hid hb2
         have HA2 := Lib.hid hat2'
         clear hown2 hg2 hat2 hb2 hat2')
      | (at_builtin
         refine wpList_append_lst _ rfl (.tmp 49) (.tmp 50) _ (by rfl) V.heap.size 5 i0 _ 1 Tryd.underlying23 hi0 hz0 hz1' hz3 hz2' v2 (0 + D.length) ([] ++ u8s D) (by rfl)
           HO2.out w.heap.size A' ys.length c' (u8s ys) (by rfl) (by simp) (HYV.out.below (HB3.out.mono (by omega))) (u8_one ys) (HMX.out _ (by omega)) (by omega) HB3.out.size ?_
         intro v3 w4 hown3 hg3 hat3
         have hb3 : Below V.heap.size V w4 := HB3.out.grown hg3 HB3.out.size HA2.out
         have ho3 : w4.ownsRow V.heap.size 5 1 v3 (D.length + ys.length) (u8s (D ++ ys)) := by
           have h := hown3
           simpa [u8s, Nat.add_assoc] using h
         obtain ⟨A4, c4, rfl, hc4, hm4, _⟩ := own_slice ho3
         have HSEG := Lib.hid (Seg.of_own ho3)
         have HB4 := Lib.hid hb3
         have fr4 := (HX7.out.next hb3).frozen 4
         have ce4 : w4.cell? ⟨m7, 4, none⟩ = some (.slice A D.length c) := (cells5 (HX7.out.next hb3)).2.2.2.2
         clear hown3 hg3 hat3 hb3 ho3)
      | fail)
    have HX75 := Lib.hid (show Blk (w4.setCell ⟨m7, 4, none⟩ (.slice A4 (D.length + ys.length) c4)) m7 46 #[.int .u64 t, .int .u64 n, .int .u64 f, .int .i64 s, .slice A4 (D.length + ys.length) c4] from by simpa using (HX7.out.next HB4.out).set_ 4 (.slice A4 (D.length + ys.length) c4))
    have HX85 := Lib.hid ((HX8.out.next HB4.out).far (p := ⟨m7, 4, none⟩) (Ne.symm hm78) (.slice A4 (D.length + ys.length) c4))
    have HK5 := Lib.hid ((HK2.out.next HB4.out).far (p := ⟨m7, 4, none⟩) (show w.heap.size ≠ m7 by omega) (.slice A4 (D.length + ys.length) c4))
    have HB5 := Lib.hid ((below_next HB2.out HB2.out.size HB4.out).setCell (p := ⟨m7, 4, none⟩) (show w.heap.size ≤ m7 by omega) (.slice A4 (D.length + ys.length) c4))
    have HSEG5 := Lib.hid (show Seg (w4.setCell ⟨m7, 4, none⟩ (.slice A4 (D.length + ys.length) c4)) V.heap.size (w4.setCell ⟨m7, 4, none⟩ (.slice A4 (D.length + ys.length) c4)).heap.size A4 (u8s (D ++ ys)) from by
      rw [show (w4.setCell ⟨m7, 4, none⟩ (.slice A4 (D.length + ys.length) c4)).heap.size = w4.heap.size by simp [World.setCell]]
      exact HSEG.out.keep fun p h1 _ => World.cell?_setCell_far _ _ _ _ (show m7 ≠ p.block by omega))
    have HSV5 := Lib.hid (show Lst (w4.setCell ⟨m7, 4, none⟩ (.slice A4 (D.length + ys.length) c4)) w.heap.size A (u8s D) from (HSV.out.below (HB4.out.mono (by omega))).keep fun p h1 => World.cell?_setCell_far _ _ _ _ (show m7 ≠ p.block by omega))
    have hz5 : w.heap.size ≤ w4.heap.size := by have := HB4.out.size; omega
    have hz5' : (w4.setCell ⟨m7, 4, none⟩ (.slice A4 (D.length + ys.length) c4)).heap.size = w4.heap.size := by simp [World.setCell]
    have HBTS : Hid (St.bts (D ++ ys)) := Lib.hid (fun z hz => by
      rcases List.mem_append.1 hz with h | h
      · exact HD.out z h
      · exact HY.out z h)
    clear HX7 HX8 HK2 HB2 HB4 HSEG HSV HYV HO2 HB3 HA2 k4 b7 fr4 ce4 HMX hi0 hz0 hz1' hz2' hz3
    generalize w4.setCell ⟨m7, 4, none⟩ (.slice A4 (D.length + ys.length) c4) = w5 at *
    obtain ⟨k0, k1, k2, k3, k4⟩ := cells5 HK5.out
    by_cases hcc : 0 ≤ cut ∧ cut < D.length
    · obtain ⟨k, rfl⟩ := Int.eq_ofNat_of_zero_le hcc.1
      have hk : k < D.length := by omega
      have dc0 : decide ((0 : Int) ≤ (k : Int)) = true := decide_eq_true hcc.1
      have dc1 : decide ((k : Int) < (D.length : Int)) = true := decide_eq_true hcc.2
      have HBTK : Hid (St.bts (D.take k)) := Lib.hid (fun z hz => HD.out z (List.mem_of_mem_take hz))
      have fr8 := HX85.out.frozen 4
      have ce8 : w5.cell? ⟨m8, 4, none⟩ = some (.slice A D.length c) := (cells5 HX85.out).2.2.2.2
      clear hcc
      go_upto_region 7 with (fail)
      have HX76 := Lib.hid (HX75.out.far (p := ⟨m8, 4, none⟩) hm78 (.slice A k c))
      have HX86 := Lib.hid (show Blk (w5.setCell ⟨m8, 4, none⟩ (.slice A k c)) m8 46 #[.int .u64 t, .int .u64 n, .int .u64 f, .int .i64 s, .slice A k c] from by simpa using HX85.out.set_ 4 (.slice A k c))
      have HK6 := Lib.hid (HK5.out.far (p := ⟨m8, 4, none⟩) (show w.heap.size ≠ m8 by omega) (.slice A k c))
      have HB6 := Lib.hid (HB5.out.setCell (p := ⟨m8, 4, none⟩) (show w.heap.size ≤ m8 by omega) (.slice A k c))
      have HSEG6 := Lib.hid (show Seg (w5.setCell ⟨m8, 4, none⟩ (.slice A k c)) V.heap.size (w5.setCell ⟨m8, 4, none⟩ (.slice A k c)).heap.size A4 (u8s (D ++ ys)) from by
        rw [show (w5.setCell ⟨m8, 4, none⟩ (.slice A k c)).heap.size = w5.heap.size by simp [World.setCell]]
        exact HSEG5.out.keep fun p h1 _ => World.cell?_setCell_far _ _ _ _ (show m8 ≠ p.block by omega))
      have HSV6 := Lib.hid (show Lst (w5.setCell ⟨m8, 4, none⟩ (.slice A k c)) w.heap.size A (u8s D) from HSV5.out.keep fun p h1 => World.cell?_setCell_far _ _ _ _ (show m8 ≠ p.block by omega))
      have hz6 : (w5.setCell ⟨m8, 4, none⟩ (.slice A k c)).heap.size = w5.heap.size := by simp [World.setCell]
      clear HX75 HX85 HK5 HB5 HSEG5 HSV5 k0 k1 k2 k3 k4 fr8 ce8
      generalize w5.setCell ⟨m8, 4, none⟩ (.slice A k c) = w6 at *
      have HBd := Lib.hid (Below.refl w6.heap.size w6).drew
      have HBD := Lib.hid (below_next HB6.out HB6.out.size HBd.out)
      have KL := Lib.hid (fun (W' : World) (h : Below w6.heap.size w6 W') => And.intro (cells5 (HK6.out.next h)) (And.intro (cells5 (HX76.out.next h)) (cells5 (HX86.out.next h))))
      have CX : Hid (∀ W', Below w6.heap.size w6 W' → Calls Tryd.prog 26 #[.agg #[.int .u64 t, .int .u64 n, .int .u64 f, .int .i64 s, .slice A4 (D.length + ys.length) c4]] W' fun e w' => e = .returned (.bool false) ∧ Below W'.heap.size W' w') := Lib.hid (fun W' h => by
        have hh := cright_any ⟨t, n, f, s, D ++ ys⟩ HBTS.out A4 W'.heap.size c4 W' (((HSEG6.out.below h).more (Nat.zero_le _) h.size).lst) (Nat.le_refl _) (by rw [List.length_append]; exact hc4) hm4 (HTW.out _ (below_next HB6.out HB6.out.size h)).1 false (iff_false HNM.out)
        simpa only [cval, List.length_append] using hh)
      have CY : Hid (∀ W', Below w6.heap.size w6 W' → Calls Tryd.prog 26 #[.agg #[.int .u64 t, .int .u64 n, .int .u64 f, .int .i64 s, .slice A k c]] W' fun e w' => e = .returned (.bool false) ∧ Below W'.heap.size W' w') := Lib.hid (fun W' h => by
        have hh := cright_any ⟨t, n, f, s, D.take k⟩ HBTK.out A W'.heap.size c W' (((HSV6.out.below (h.mono (by omega))).more (by have := h.size; omega)).prefix_ k) (Nat.le_refl _) (by rw [List.length_take]; omega) hm (HTW.out _ (below_next HB6.out HB6.out.size h)).1 false (iff_false (HNC.out k hk))
        simpa only [cval, List.length_take, Nat.min_eq_left (Nat.le_of_lt hk)] using hh)
      have hlen : ((k : Int) == (D.length : Int)) = false := by simp; omega
      refine wp_region_held_drew (S := (fun w' => (w'.cell? ⟨w.heap.size, 0, none⟩ = some (.int .u64 t) ∧ w'.cell? ⟨w.heap.size, 1, none⟩ = some (.int .u64 n) ∧ w'.cell? ⟨w.heap.size, 2, none⟩ = some (.int .u64 f) ∧ w'.cell? ⟨w.heap.size, 3, none⟩ = some (.int .i64 s) ∧ w'.cell? ⟨w.heap.size, 4, none⟩ = some (.slice A D.length c)) ∧ (w'.cell? ⟨m7, 0, none⟩ = some (.int .u64 t) ∧ w'.cell? ⟨m7, 1, none⟩ = some (.int .u64 n) ∧ w'.cell? ⟨m7, 2, none⟩ = some (.int .u64 f) ∧ w'.cell? ⟨m7, 3, none⟩ = some (.int .i64 s) ∧ w'.cell? ⟨m7, 4, none⟩ = some (.slice A4 (D.length + ys.length) c4)) ∧ (w'.cell? ⟨m8, 0, none⟩ = some (.int .u64 t) ∧ w'.cell? ⟨m8, 1, none⟩ = some (.int .u64 n) ∧ w'.cell? ⟨m8, 2, none⟩ = some (.int .u64 f) ∧ w'.cell? ⟨m8, 3, none⟩ = some (.int .i64 s) ∧ w'.cell? ⟨m8, 4, none⟩ = some (.slice A k c)))) (by kernel_rfl) (KL.out _ HBd.out) (fun hHeld => ?_)
      refine wpAnyH_ready (rs := [0]) (by kernel_rfl) (by simp) ?_
      refine AllReadyH.cons (o := ({ dst := some 67, op := Op.call { callee := Callee.value (Operand.func 15), args := #[], argTypes := #[] }, type := 4, pos := "outright.go:49", after := #[], guard := none })) rfl (fun K hK => ?_) AllReadyH.nil
      go_simp
      refine (CAl.out _ HBD.out).mono ?_
      rintro e wA ⟨rfl, hbA⟩
      have HBA := Lib.hid (below_next HBd.out HBd.out.size hbA)
      clear hbA
      refine hK.out _ _ ?_ (fun hHeld2 => ?_)
      · (try dsimp only)
        exact KL.out _ HBA.out
      clear hK K hHeld
      rename _ => hHeld
      try simp only [Act.put, List.setIfInBounds_toArray, List.set_cons_zero, List.set_cons_succ]
      first
      | (refine wpAnyH_take (i := 1) (oi := ({ dst := some 68, op := Op.move (Operand.tmp 67), type := 4, pos := "outright.go:49", after := #[{ on := 0, ground := Ground.data }, { on := 0, ground := Ground.chain }], guard := none })) (v := ?_) rfl (by kernel_rfl) (by kernel_rfl) (by kernel_rfl) (fun _ _ _ h => h) (Or.inl ⟨by rfl, ?_⟩) hHeld ?_
         rotate_left
         · intro w hSw
           (try dsimp only at hSw)
           go_simp
           try with_reducible rfl
         try simp only [Act.put, List.setIfInBounds_toArray, List.set_cons_zero, List.set_cons_succ])
      | fail
      first
      | (refine wpAnyH_take (i := 2) (oi := ({ dst := some 69, op := Op.load 46 (Operand.tmp 7), type := 46, pos := "outright.go:49", after := #[{ on := 1, ground := Ground.guard }], guard := some (1, true) })) (v := ?_) rfl (by kernel_rfl) (by kernel_rfl) (by kernel_rfl) (fun _ _ _ h => h) (Or.inl ⟨by rfl, ?_⟩) hHeld ?_
         rotate_left
         · intro w hSw
           (try dsimp only at hSw)
           go_simp
           try with_reducible rfl
         try simp only [Act.put, List.setIfInBounds_toArray, List.set_cons_zero, List.set_cons_succ])
      | fail
      refine wpAnyH_ready (rs := [3]) (by kernel_rfl) (by simp) ?_
      refine AllReadyH.cons (o := ({ dst := some 70, op := Op.call { callee := Callee.value (Operand.func 26), args := #[Operand.tmp 69], argTypes := #[46] }, type := 4, pos := "outright.go:49", after := #[{ on := 2, ground := Ground.data }, { on := 1, ground := Ground.chain }, { on := 1, ground := Ground.guard }], guard := some (1, true) })) rfl (fun K hK => ?_) AllReadyH.nil
      go_simp
      refine (CX.out _ HBA.out).mono ?_
      rintro e wB ⟨rfl, hbB⟩
      have HBB := Lib.hid (below_next HBA.out HBA.out.size hbB)
      clear hbB
      refine hK.out _ _ ?_ (fun hHeld2 => ?_)
      · (try dsimp only)
        exact KL.out _ HBB.out
      clear hK K hHeld
      rename _ => hHeld
      try simp only [Act.put, List.setIfInBounds_toArray, List.set_cons_zero, List.set_cons_succ]
      first
      | (refine wpAnyH_take (i := 4) (oi := ({ dst := some 71, op := Op.unOp UnOp.not 4 (Operand.tmp 70), type := 4, pos := "outright.go:49", after := #[{ on := 3, ground := Ground.data }, { on := 1, ground := Ground.guard }], guard := some (1, true) })) (v := ?_) rfl (by kernel_rfl) (by kernel_rfl) (by kernel_rfl) (fun _ _ _ h => h) (Or.inl ⟨by rfl, ?_⟩) hHeld ?_
         rotate_left
         · intro w hSw
           (try dsimp only at hSw)
           go_simp
           try with_reducible rfl
         try simp only [Act.put, List.setIfInBounds_toArray, List.set_cons_zero, List.set_cons_succ])
      | fail
      first
      | (refine wpAnyH_take (i := 5) (oi := ({ dst := some 72, op := Op.pick (Operand.tmp 68) (Operand.tmp 71) (Operand.const (Value.bool false)), type := 4, pos := "outright.go:49", after := #[{ on := 1, ground := Ground.data }, { on := 4, ground := Ground.data }], guard := none })) (v := ?_) rfl (by kernel_rfl) (by kernel_rfl) (by kernel_rfl) (fun _ _ _ h => h) (Or.inl ⟨by rfl, ?_⟩) hHeld ?_
         rotate_left
         · intro w hSw
           (try dsimp only at hSw)
           go_simp
           try with_reducible rfl
         try simp only [Act.put, List.setIfInBounds_toArray, List.set_cons_zero, List.set_cons_succ])
      | fail
      first
      | (refine wpAnyH_take (i := 6) (oi := ({ dst := some 73, op := Op.move (Operand.tmp 72), type := 4, pos := "outright.go:49", after := #[{ on := 5, ground := Ground.data }, { on := 3, ground := Ground.chain }], guard := none })) (v := ?_) rfl (by kernel_rfl) (by kernel_rfl) (by kernel_rfl) (fun _ _ _ h => h) (Or.inl ⟨by rfl, ?_⟩) hHeld ?_
         rotate_left
         · intro w hSw
           (try dsimp only at hSw)
           go_simp
           try with_reducible rfl
         try simp only [Act.put, List.setIfInBounds_toArray, List.set_cons_zero, List.set_cons_succ])
      | fail
      first
      | (refine wpAnyH_take (i := 7) (oi := ({ dst := some 74, op := Op.load 46 (Operand.tmp 8), type := 46, pos := "outright.go:49", after := #[{ on := 6, ground := Ground.guard }], guard := some (6, true) })) (v := ?_) rfl (by kernel_rfl) (by kernel_rfl) (by kernel_rfl) (fun _ _ _ h => h) (Or.inl ⟨by rfl, ?_⟩) hHeld ?_
         rotate_left
         · intro w hSw
           (try dsimp only at hSw)
           go_simp
           try with_reducible rfl
         try simp only [Act.put, List.setIfInBounds_toArray, List.set_cons_zero, List.set_cons_succ])
      | fail
      first
      | (refine wpAnyH_take (i := 9) (oi := ({ dst := some 76, op := Op.fieldAddr 46 (Operand.tmp 8) 4, type := 0, pos := "outright.go:49", after := #[{ on := 6, ground := Ground.guard }], guard := some (6, true) })) (v := ?_) rfl (by kernel_rfl) (by kernel_rfl) (by kernel_rfl) (fun _ _ _ h => h) (Or.inl ⟨by rfl, ?_⟩) hHeld ?_
         rotate_left
         · intro w hSw
           (try dsimp only at hSw)
           go_simp
           try with_reducible rfl
         try simp only [Act.put, List.setIfInBounds_toArray, List.set_cons_zero, List.set_cons_succ])
      | fail
      first
      | (refine wpAnyH_take (i := 10) (oi := ({ dst := some 77, op := Op.load 23 (Operand.tmp 76), type := 23, pos := "outright.go:49", after := #[{ on := 9, ground := Ground.data }, { on := 6, ground := Ground.guard }], guard := some (6, true) })) (v := ?_) rfl (by kernel_rfl) (by kernel_rfl) (by kernel_rfl) (fun _ _ _ h => h) (Or.inl ⟨by rfl, ?_⟩) hHeld ?_
         rotate_left
         · intro w hSw
           (try dsimp only at hSw)
           go_simp
           try with_reducible rfl
         try simp only [Act.put, List.setIfInBounds_toArray, List.set_cons_zero, List.set_cons_succ])
      | fail
      first
      | (refine wpAnyH_take (i := 11) (oi := ({ dst := some 78, op := Op.call { callee := Callee.builtin Builtin.len, args := #[Operand.tmp 77], argTypes := #[23] }, type := 3, pos := "outright.go:49", after := #[{ on := 10, ground := Ground.data }, { on := 6, ground := Ground.guard }], guard := some (6, true) })) (v := ?_) rfl (by kernel_rfl) (by kernel_rfl) (by kernel_rfl) (fun _ _ _ h => h) (Or.inl ⟨by rfl, ?_⟩) hHeld ?_
         rotate_left
         · intro w hSw
           (try dsimp only at hSw)
           go_simp
           try with_reducible rfl
         try simp only [Act.put, List.setIfInBounds_toArray, List.set_cons_zero, List.set_cons_succ])
      | fail
      first
      | (refine wpAnyH_take (i := 12) (oi := ({ dst := some 79, op := Op.fieldAddr 46 (Operand.tmp 3) 4, type := 0, pos := "outright.go:49", after := #[{ on := 6, ground := Ground.guard }], guard := some (6, true) })) (v := ?_) rfl (by kernel_rfl) (by kernel_rfl) (by kernel_rfl) (fun _ _ _ h => h) (Or.inl ⟨by rfl, ?_⟩) hHeld ?_
         rotate_left
         · intro w hSw
           (try dsimp only at hSw)
           go_simp
           try with_reducible rfl
         try simp only [Act.put, List.setIfInBounds_toArray, List.set_cons_zero, List.set_cons_succ])
      | fail
      first
      | (refine wpAnyH_take (i := 13) (oi := ({ dst := some 80, op := Op.load 23 (Operand.tmp 79), type := 23, pos := "outright.go:49", after := #[{ on := 12, ground := Ground.data }, { on := 6, ground := Ground.guard }], guard := some (6, true) })) (v := ?_) rfl (by kernel_rfl) (by kernel_rfl) (by kernel_rfl) (fun _ _ _ h => h) (Or.inl ⟨by rfl, ?_⟩) hHeld ?_
         rotate_left
         · intro w hSw
           (try dsimp only at hSw)
           go_simp
           try with_reducible rfl
         try simp only [Act.put, List.setIfInBounds_toArray, List.set_cons_zero, List.set_cons_succ])
      | fail
      first
      | (refine wpAnyH_take (i := 14) (oi := ({ dst := some 81, op := Op.call { callee := Callee.builtin Builtin.len, args := #[Operand.tmp 80], argTypes := #[23] }, type := 3, pos := "outright.go:49", after := #[{ on := 13, ground := Ground.data }, { on := 6, ground := Ground.guard }], guard := some (6, true) })) (v := ?_) rfl (by kernel_rfl) (by kernel_rfl) (by kernel_rfl) (fun _ _ _ h => h) (Or.inl ⟨by rfl, ?_⟩) hHeld ?_
         rotate_left
         · intro w hSw
           (try dsimp only at hSw)
           go_simp
           try with_reducible rfl
         try simp only [Act.put, List.setIfInBounds_toArray, List.set_cons_zero, List.set_cons_succ])
      | fail
      first
      | (refine wpAnyH_take (i := 15) (oi := ({ dst := some 82, op := Op.binOp BinOp.eql 3 (Operand.tmp 78) (Operand.tmp 81) 3, type := 4, pos := "outright.go:49", after := #[{ on := 11, ground := Ground.data }, { on := 14, ground := Ground.data }, { on := 6, ground := Ground.guard }], guard := some (6, true) })) (v := ?_) rfl (by kernel_rfl) (by kernel_rfl) (by kernel_rfl) (fun _ _ _ h => h) (Or.inl ⟨by rfl, ?_⟩) hHeld ?_
         rotate_left
         · intro w hSw
           (try dsimp only at hSw)
           go_simp
           try with_reducible rfl
         try simp only [Act.put, List.setIfInBounds_toArray, List.set_cons_zero, List.set_cons_succ])
      | fail
      refine wpAnyH_ready (rs := [8]) (by kernel_rfl) (by simp) ?_
      refine AllReadyH.cons (o := ({ dst := some 75, op := Op.call { callee := Callee.value (Operand.func 26), args := #[Operand.tmp 74], argTypes := #[46] }, type := 4, pos := "outright.go:49", after := #[{ on := 7, ground := Ground.data }, { on := 6, ground := Ground.chain }, { on := 6, ground := Ground.guard }], guard := some (6, true) })) rfl (fun K hK => ?_) AllReadyH.nil
      go_simp
      refine (CY.out _ HBB.out).mono ?_
      rintro e wC ⟨rfl, hbC⟩
      have HBE := Lib.hid (below_next HBB.out HBB.out.size hbC)
      clear hbC
      refine hK.out _ _ ?_ (fun hHeld2 => ?_)
      · (try dsimp only)
        exact KL.out _ HBE.out
      clear hK K hHeld
      rename _ => hHeld
      try simp only [Act.put, List.setIfInBounds_toArray, List.set_cons_zero, List.set_cons_succ]
      first
      | (refine wpAnyH_take (i := 16) (oi := ({ dst := some 83, op := Op.binOp BinOp.eql 4 (Operand.tmp 75) (Operand.tmp 82) 4, type := 4, pos := "outright.go:49", after := #[{ on := 8, ground := Ground.data }, { on := 15, ground := Ground.data }, { on := 6, ground := Ground.guard }], guard := some (6, true) })) (v := ?_) rfl (by kernel_rfl) (by kernel_rfl) (by kernel_rfl) (fun _ _ _ h => h) (Or.inl ⟨by rfl, ?_⟩) hHeld ?_
         rotate_left
         · intro w hSw
           (try dsimp only at hSw)
           go_simp
           try with_reducible rfl
         try simp only [Act.put, List.setIfInBounds_toArray, List.set_cons_zero, List.set_cons_succ])
      | fail
      first
      | (refine wpAnyH_take (i := 17) (oi := ({ dst := some 84, op := Op.pick (Operand.tmp 73) (Operand.tmp 83) (Operand.const (Value.bool false)), type := 4, pos := "outright.go:49", after := #[{ on := 6, ground := Ground.data }, { on := 16, ground := Ground.data }], guard := none })) (v := ?_) rfl (by kernel_rfl) (by kernel_rfl) (by kernel_rfl) (fun _ _ _ h => h) (Or.inl ⟨by rfl, ?_⟩) hHeld ?_
         rotate_left
         · intro w hSw
           (try dsimp only at hSw)
           go_simp
           try with_reducible rfl
         try simp only [Act.put, List.setIfInBounds_toArray, List.set_cons_zero, List.set_cons_succ])
      | fail
      first
      | (refine wpAnyH_take (i := 18) (oi := ({ dst := some 6, op := Op.assign (Operand.tmp 84), type := 4, pos := "outright.go:49", after := #[{ on := 17, ground := Ground.data }, { on := 8, ground := Ground.chain }, { on := 0, ground := Ground.phase }, { on := 1, ground := Ground.phase }, { on := 2, ground := Ground.phase }, { on := 3, ground := Ground.phase }, { on := 4, ground := Ground.phase }, { on := 5, ground := Ground.phase }, { on := 6, ground := Ground.phase }, { on := 7, ground := Ground.phase }, { on := 8, ground := Ground.phase }, { on := 9, ground := Ground.phase }, { on := 10, ground := Ground.phase }, { on := 11, ground := Ground.phase }, { on := 12, ground := Ground.phase }, { on := 13, ground := Ground.phase }, { on := 14, ground := Ground.phase }, { on := 15, ground := Ground.phase }, { on := 16, ground := Ground.phase }, { on := 17, ground := Ground.phase }], guard := none })) (v := ?_) rfl (by kernel_rfl) (by kernel_rfl) (by kernel_rfl) (fun _ _ _ h => h) (Or.inl ⟨by rfl, ?_⟩) hHeld ?_
         rotate_left
         · intro w hSw
           (try dsimp only at hSw)
           go_simp
           try with_reducible rfl
         try simp only [Act.put, List.setIfInBounds_toArray, List.set_cons_zero, List.set_cons_succ])
      | fail
      refine wpAnyH_done (by kernel_rfl) ?_ _
      go_wp2_with fail
      go_ret
      exact ⟨rfl, below_next HB6.out HB6.out.size HBE.out⟩
    · have HX76 := HX75
      have HX86 := HX85
      have HK6 := HK5
      have HB6 := HB5
      have HSEG6 := HSEG5
      have HSV6 := HSV5
      clear HX75 HX85 HK5 HB5 HSEG5 HSV5
      generalize w5 = w6 at *
      by_cases hc0 : 0 ≤ cut
      · have dc0 : decide ((0 : Int) ≤ cut) = true := decide_eq_true hc0
        have dc1 : decide (cut < (D.length : Int)) = false := decide_eq_false (by omega)
        go_upto_region 7 with (fail)
        have HBd := Lib.hid (Below.refl w6.heap.size w6).drew
        have HBD := Lib.hid (below_next HB6.out HB6.out.size HBd.out)
        have KL := Lib.hid (fun (W' : World) (h : Below w6.heap.size w6 W') => And.intro (cells5 (HK6.out.next h)) (And.intro (cells5 (HX76.out.next h)) (cells5 (HX86.out.next h))))
        have CX : Hid (∀ W', Below w6.heap.size w6 W' → Calls Tryd.prog 26 #[.agg #[.int .u64 t, .int .u64 n, .int .u64 f, .int .i64 s, .slice A4 (D.length + ys.length) c4]] W' fun e w' => e = .returned (.bool false) ∧ Below W'.heap.size W' w') := Lib.hid (fun W' h => by
          have hh := cright_any ⟨t, n, f, s, D ++ ys⟩ HBTS.out A4 W'.heap.size c4 W' (((HSEG6.out.below h).more (Nat.zero_le _) h.size).lst) (Nat.le_refl _) (by rw [List.length_append]; exact hc4) hm4 (HTW.out _ (below_next HB6.out HB6.out.size h)).1 false (iff_false HNM.out)
          simpa only [cval, List.length_append] using hh)
        have CY := Lib.hid (fun (W' : World) (h : Below w6.heap.size w6 W') => cright_any ⟨t, n, f, s, D⟩ HD.out A W'.heap.size c W' ((HSV6.out.below (h.mono (by omega))).more (by have := h.size; omega)) (Nat.le_refl _) hc hm (HTW.out _ (below_next HB6.out HB6.out.size h)).1 true (iff_true HCR.out))
        have hlen : ((D.length : Int) == (D.length : Int)) = true := by simp
        refine wp_region_held_drew (S := (fun w' => (w'.cell? ⟨w.heap.size, 0, none⟩ = some (.int .u64 t) ∧ w'.cell? ⟨w.heap.size, 1, none⟩ = some (.int .u64 n) ∧ w'.cell? ⟨w.heap.size, 2, none⟩ = some (.int .u64 f) ∧ w'.cell? ⟨w.heap.size, 3, none⟩ = some (.int .i64 s) ∧ w'.cell? ⟨w.heap.size, 4, none⟩ = some (.slice A D.length c)) ∧ (w'.cell? ⟨m7, 0, none⟩ = some (.int .u64 t) ∧ w'.cell? ⟨m7, 1, none⟩ = some (.int .u64 n) ∧ w'.cell? ⟨m7, 2, none⟩ = some (.int .u64 f) ∧ w'.cell? ⟨m7, 3, none⟩ = some (.int .i64 s) ∧ w'.cell? ⟨m7, 4, none⟩ = some (.slice A4 (D.length + ys.length) c4)) ∧ (w'.cell? ⟨m8, 0, none⟩ = some (.int .u64 t) ∧ w'.cell? ⟨m8, 1, none⟩ = some (.int .u64 n) ∧ w'.cell? ⟨m8, 2, none⟩ = some (.int .u64 f) ∧ w'.cell? ⟨m8, 3, none⟩ = some (.int .i64 s) ∧ w'.cell? ⟨m8, 4, none⟩ = some (.slice A D.length c)))) (by kernel_rfl) (KL.out _ HBd.out) (fun hHeld => ?_)
        refine wpAnyH_ready (rs := [0]) (by kernel_rfl) (by simp) ?_
        refine AllReadyH.cons (o := ({ dst := some 67, op := Op.call { callee := Callee.value (Operand.func 15), args := #[], argTypes := #[] }, type := 4, pos := "outright.go:49", after := #[], guard := none })) rfl (fun K hK => ?_) AllReadyH.nil
        go_simp
        refine (CAl.out _ HBD.out).mono ?_
        rintro e wA ⟨rfl, hbA⟩
        have HBA := Lib.hid (below_next HBd.out HBd.out.size hbA)
        clear hbA
        refine hK.out _ _ ?_ (fun hHeld2 => ?_)
        · (try dsimp only)
          exact KL.out _ HBA.out
        clear hK K hHeld
        rename _ => hHeld
        try simp only [Act.put, List.setIfInBounds_toArray, List.set_cons_zero, List.set_cons_succ]
        first
        | (refine wpAnyH_take (i := 1) (oi := ({ dst := some 68, op := Op.move (Operand.tmp 67), type := 4, pos := "outright.go:49", after := #[{ on := 0, ground := Ground.data }, { on := 0, ground := Ground.chain }], guard := none })) (v := ?_) rfl (by kernel_rfl) (by kernel_rfl) (by kernel_rfl) (fun _ _ _ h => h) (Or.inl ⟨by rfl, ?_⟩) hHeld ?_
           rotate_left
           · intro w hSw
             (try dsimp only at hSw)
             go_simp
             try with_reducible rfl
           try simp only [Act.put, List.setIfInBounds_toArray, List.set_cons_zero, List.set_cons_succ])
        | fail
        first
        | (refine wpAnyH_take (i := 2) (oi := ({ dst := some 69, op := Op.load 46 (Operand.tmp 7), type := 46, pos := "outright.go:49", after := #[{ on := 1, ground := Ground.guard }], guard := some (1, true) })) (v := ?_) rfl (by kernel_rfl) (by kernel_rfl) (by kernel_rfl) (fun _ _ _ h => h) (Or.inl ⟨by rfl, ?_⟩) hHeld ?_
           rotate_left
           · intro w hSw
             (try dsimp only at hSw)
             go_simp
             try with_reducible rfl
           try simp only [Act.put, List.setIfInBounds_toArray, List.set_cons_zero, List.set_cons_succ])
        | fail
        refine wpAnyH_ready (rs := [3]) (by kernel_rfl) (by simp) ?_
        refine AllReadyH.cons (o := ({ dst := some 70, op := Op.call { callee := Callee.value (Operand.func 26), args := #[Operand.tmp 69], argTypes := #[46] }, type := 4, pos := "outright.go:49", after := #[{ on := 2, ground := Ground.data }, { on := 1, ground := Ground.chain }, { on := 1, ground := Ground.guard }], guard := some (1, true) })) rfl (fun K hK => ?_) AllReadyH.nil
        go_simp
        refine (CX.out _ HBA.out).mono ?_
        rintro e wB ⟨rfl, hbB⟩
        have HBB := Lib.hid (below_next HBA.out HBA.out.size hbB)
        clear hbB
        refine hK.out _ _ ?_ (fun hHeld2 => ?_)
        · (try dsimp only)
          exact KL.out _ HBB.out
        clear hK K hHeld
        rename _ => hHeld
        try simp only [Act.put, List.setIfInBounds_toArray, List.set_cons_zero, List.set_cons_succ]
        first
        | (refine wpAnyH_take (i := 4) (oi := ({ dst := some 71, op := Op.unOp UnOp.not 4 (Operand.tmp 70), type := 4, pos := "outright.go:49", after := #[{ on := 3, ground := Ground.data }, { on := 1, ground := Ground.guard }], guard := some (1, true) })) (v := ?_) rfl (by kernel_rfl) (by kernel_rfl) (by kernel_rfl) (fun _ _ _ h => h) (Or.inl ⟨by rfl, ?_⟩) hHeld ?_
           rotate_left
           · intro w hSw
             (try dsimp only at hSw)
             go_simp
             try with_reducible rfl
           try simp only [Act.put, List.setIfInBounds_toArray, List.set_cons_zero, List.set_cons_succ])
        | fail
        first
        | (refine wpAnyH_take (i := 5) (oi := ({ dst := some 72, op := Op.pick (Operand.tmp 68) (Operand.tmp 71) (Operand.const (Value.bool false)), type := 4, pos := "outright.go:49", after := #[{ on := 1, ground := Ground.data }, { on := 4, ground := Ground.data }], guard := none })) (v := ?_) rfl (by kernel_rfl) (by kernel_rfl) (by kernel_rfl) (fun _ _ _ h => h) (Or.inl ⟨by rfl, ?_⟩) hHeld ?_
           rotate_left
           · intro w hSw
             (try dsimp only at hSw)
             go_simp
             try with_reducible rfl
           try simp only [Act.put, List.setIfInBounds_toArray, List.set_cons_zero, List.set_cons_succ])
        | fail
        first
        | (refine wpAnyH_take (i := 6) (oi := ({ dst := some 73, op := Op.move (Operand.tmp 72), type := 4, pos := "outright.go:49", after := #[{ on := 5, ground := Ground.data }, { on := 3, ground := Ground.chain }], guard := none })) (v := ?_) rfl (by kernel_rfl) (by kernel_rfl) (by kernel_rfl) (fun _ _ _ h => h) (Or.inl ⟨by rfl, ?_⟩) hHeld ?_
           rotate_left
           · intro w hSw
             (try dsimp only at hSw)
             go_simp
             try with_reducible rfl
           try simp only [Act.put, List.setIfInBounds_toArray, List.set_cons_zero, List.set_cons_succ])
        | fail
        first
        | (refine wpAnyH_take (i := 7) (oi := ({ dst := some 74, op := Op.load 46 (Operand.tmp 8), type := 46, pos := "outright.go:49", after := #[{ on := 6, ground := Ground.guard }], guard := some (6, true) })) (v := ?_) rfl (by kernel_rfl) (by kernel_rfl) (by kernel_rfl) (fun _ _ _ h => h) (Or.inl ⟨by rfl, ?_⟩) hHeld ?_
           rotate_left
           · intro w hSw
             (try dsimp only at hSw)
             go_simp
             try with_reducible rfl
           try simp only [Act.put, List.setIfInBounds_toArray, List.set_cons_zero, List.set_cons_succ])
        | fail
        first
        | (refine wpAnyH_take (i := 9) (oi := ({ dst := some 76, op := Op.fieldAddr 46 (Operand.tmp 8) 4, type := 0, pos := "outright.go:49", after := #[{ on := 6, ground := Ground.guard }], guard := some (6, true) })) (v := ?_) rfl (by kernel_rfl) (by kernel_rfl) (by kernel_rfl) (fun _ _ _ h => h) (Or.inl ⟨by rfl, ?_⟩) hHeld ?_
           rotate_left
           · intro w hSw
             (try dsimp only at hSw)
             go_simp
             try with_reducible rfl
           try simp only [Act.put, List.setIfInBounds_toArray, List.set_cons_zero, List.set_cons_succ])
        | fail
        first
        | (refine wpAnyH_take (i := 10) (oi := ({ dst := some 77, op := Op.load 23 (Operand.tmp 76), type := 23, pos := "outright.go:49", after := #[{ on := 9, ground := Ground.data }, { on := 6, ground := Ground.guard }], guard := some (6, true) })) (v := ?_) rfl (by kernel_rfl) (by kernel_rfl) (by kernel_rfl) (fun _ _ _ h => h) (Or.inl ⟨by rfl, ?_⟩) hHeld ?_
           rotate_left
           · intro w hSw
             (try dsimp only at hSw)
             go_simp
             try with_reducible rfl
           try simp only [Act.put, List.setIfInBounds_toArray, List.set_cons_zero, List.set_cons_succ])
        | fail
        first
        | (refine wpAnyH_take (i := 11) (oi := ({ dst := some 78, op := Op.call { callee := Callee.builtin Builtin.len, args := #[Operand.tmp 77], argTypes := #[23] }, type := 3, pos := "outright.go:49", after := #[{ on := 10, ground := Ground.data }, { on := 6, ground := Ground.guard }], guard := some (6, true) })) (v := ?_) rfl (by kernel_rfl) (by kernel_rfl) (by kernel_rfl) (fun _ _ _ h => h) (Or.inl ⟨by rfl, ?_⟩) hHeld ?_
           rotate_left
           · intro w hSw
             (try dsimp only at hSw)
             go_simp
             try with_reducible rfl
           try simp only [Act.put, List.setIfInBounds_toArray, List.set_cons_zero, List.set_cons_succ])
        | fail
        first
        | (refine wpAnyH_take (i := 12) (oi := ({ dst := some 79, op := Op.fieldAddr 46 (Operand.tmp 3) 4, type := 0, pos := "outright.go:49", after := #[{ on := 6, ground := Ground.guard }], guard := some (6, true) })) (v := ?_) rfl (by kernel_rfl) (by kernel_rfl) (by kernel_rfl) (fun _ _ _ h => h) (Or.inl ⟨by rfl, ?_⟩) hHeld ?_
           rotate_left
           · intro w hSw
             (try dsimp only at hSw)
             go_simp
             try with_reducible rfl
           try simp only [Act.put, List.setIfInBounds_toArray, List.set_cons_zero, List.set_cons_succ])
        | fail
        first
        | (refine wpAnyH_take (i := 13) (oi := ({ dst := some 80, op := Op.load 23 (Operand.tmp 79), type := 23, pos := "outright.go:49", after := #[{ on := 12, ground := Ground.data }, { on := 6, ground := Ground.guard }], guard := some (6, true) })) (v := ?_) rfl (by kernel_rfl) (by kernel_rfl) (by kernel_rfl) (fun _ _ _ h => h) (Or.inl ⟨by rfl, ?_⟩) hHeld ?_
           rotate_left
           · intro w hSw
             (try dsimp only at hSw)
             go_simp
             try with_reducible rfl
           try simp only [Act.put, List.setIfInBounds_toArray, List.set_cons_zero, List.set_cons_succ])
        | fail
        first
        | (refine wpAnyH_take (i := 14) (oi := ({ dst := some 81, op := Op.call { callee := Callee.builtin Builtin.len, args := #[Operand.tmp 80], argTypes := #[23] }, type := 3, pos := "outright.go:49", after := #[{ on := 13, ground := Ground.data }, { on := 6, ground := Ground.guard }], guard := some (6, true) })) (v := ?_) rfl (by kernel_rfl) (by kernel_rfl) (by kernel_rfl) (fun _ _ _ h => h) (Or.inl ⟨by rfl, ?_⟩) hHeld ?_
           rotate_left
           · intro w hSw
             (try dsimp only at hSw)
             go_simp
             try with_reducible rfl
           try simp only [Act.put, List.setIfInBounds_toArray, List.set_cons_zero, List.set_cons_succ])
        | fail
        first
        | (refine wpAnyH_take (i := 15) (oi := ({ dst := some 82, op := Op.binOp BinOp.eql 3 (Operand.tmp 78) (Operand.tmp 81) 3, type := 4, pos := "outright.go:49", after := #[{ on := 11, ground := Ground.data }, { on := 14, ground := Ground.data }, { on := 6, ground := Ground.guard }], guard := some (6, true) })) (v := ?_) rfl (by kernel_rfl) (by kernel_rfl) (by kernel_rfl) (fun _ _ _ h => h) (Or.inl ⟨by rfl, ?_⟩) hHeld ?_
           rotate_left
           · intro w hSw
             (try dsimp only at hSw)
             go_simp
             try with_reducible rfl
           try simp only [Act.put, List.setIfInBounds_toArray, List.set_cons_zero, List.set_cons_succ])
        | fail
        refine wpAnyH_ready (rs := [8]) (by kernel_rfl) (by simp) ?_
        refine AllReadyH.cons (o := ({ dst := some 75, op := Op.call { callee := Callee.value (Operand.func 26), args := #[Operand.tmp 74], argTypes := #[46] }, type := 4, pos := "outright.go:49", after := #[{ on := 7, ground := Ground.data }, { on := 6, ground := Ground.chain }, { on := 6, ground := Ground.guard }], guard := some (6, true) })) rfl (fun K hK => ?_) AllReadyH.nil
        go_simp
        refine (CY.out _ HBB.out).mono ?_
        rintro e wC ⟨rfl, hbC⟩
        have HBE := Lib.hid (below_next HBB.out HBB.out.size hbC)
        clear hbC
        refine hK.out _ _ ?_ (fun hHeld2 => ?_)
        · (try dsimp only)
          exact KL.out _ HBE.out
        clear hK K hHeld
        rename _ => hHeld
        try simp only [Act.put, List.setIfInBounds_toArray, List.set_cons_zero, List.set_cons_succ]
        first
        | (refine wpAnyH_take (i := 16) (oi := ({ dst := some 83, op := Op.binOp BinOp.eql 4 (Operand.tmp 75) (Operand.tmp 82) 4, type := 4, pos := "outright.go:49", after := #[{ on := 8, ground := Ground.data }, { on := 15, ground := Ground.data }, { on := 6, ground := Ground.guard }], guard := some (6, true) })) (v := ?_) rfl (by kernel_rfl) (by kernel_rfl) (by kernel_rfl) (fun _ _ _ h => h) (Or.inl ⟨by rfl, ?_⟩) hHeld ?_
           rotate_left
           · intro w hSw
             (try dsimp only at hSw)
             go_simp
             try with_reducible rfl
           try simp only [Act.put, List.setIfInBounds_toArray, List.set_cons_zero, List.set_cons_succ])
        | fail
        first
        | (refine wpAnyH_take (i := 17) (oi := ({ dst := some 84, op := Op.pick (Operand.tmp 73) (Operand.tmp 83) (Operand.const (Value.bool false)), type := 4, pos := "outright.go:49", after := #[{ on := 6, ground := Ground.data }, { on := 16, ground := Ground.data }], guard := none })) (v := ?_) rfl (by kernel_rfl) (by kernel_rfl) (by kernel_rfl) (fun _ _ _ h => h) (Or.inl ⟨by rfl, ?_⟩) hHeld ?_
           rotate_left
           · intro w hSw
             (try dsimp only at hSw)
             go_simp
             try with_reducible rfl
           try simp only [Act.put, List.setIfInBounds_toArray, List.set_cons_zero, List.set_cons_succ])
        | fail
        first
        | (refine wpAnyH_take (i := 18) (oi := ({ dst := some 6, op := Op.assign (Operand.tmp 84), type := 4, pos := "outright.go:49", after := #[{ on := 17, ground := Ground.data }, { on := 8, ground := Ground.chain }, { on := 0, ground := Ground.phase }, { on := 1, ground := Ground.phase }, { on := 2, ground := Ground.phase }, { on := 3, ground := Ground.phase }, { on := 4, ground := Ground.phase }, { on := 5, ground := Ground.phase }, { on := 6, ground := Ground.phase }, { on := 7, ground := Ground.phase }, { on := 8, ground := Ground.phase }, { on := 9, ground := Ground.phase }, { on := 10, ground := Ground.phase }, { on := 11, ground := Ground.phase }, { on := 12, ground := Ground.phase }, { on := 13, ground := Ground.phase }, { on := 14, ground := Ground.phase }, { on := 15, ground := Ground.phase }, { on := 16, ground := Ground.phase }, { on := 17, ground := Ground.phase }], guard := none })) (v := ?_) rfl (by kernel_rfl) (by kernel_rfl) (by kernel_rfl) (fun _ _ _ h => h) (Or.inl ⟨by rfl, ?_⟩) hHeld ?_
           rotate_left
           · intro w hSw
             (try dsimp only at hSw)
             go_simp
             try with_reducible rfl
           try simp only [Act.put, List.setIfInBounds_toArray, List.set_cons_zero, List.set_cons_succ])
        | fail
        refine wpAnyH_done (by kernel_rfl) ?_ _
        go_wp2_with fail
        go_ret
        exact ⟨rfl, below_next HB6.out HB6.out.size HBE.out⟩
      · have dc0 : decide ((0 : Int) ≤ cut) = false := decide_eq_false hc0
        go_upto_region 7 with (fail)
        have HBd := Lib.hid (Below.refl w6.heap.size w6).drew
        have HBD := Lib.hid (below_next HB6.out HB6.out.size HBd.out)
        have KL := Lib.hid (fun (W' : World) (h : Below w6.heap.size w6 W') => And.intro (cells5 (HK6.out.next h)) (And.intro (cells5 (HX76.out.next h)) (cells5 (HX86.out.next h))))
        have CX : Hid (∀ W', Below w6.heap.size w6 W' → Calls Tryd.prog 26 #[.agg #[.int .u64 t, .int .u64 n, .int .u64 f, .int .i64 s, .slice A4 (D.length + ys.length) c4]] W' fun e w' => e = .returned (.bool false) ∧ Below W'.heap.size W' w') := Lib.hid (fun W' h => by
          have hh := cright_any ⟨t, n, f, s, D ++ ys⟩ HBTS.out A4 W'.heap.size c4 W' (((HSEG6.out.below h).more (Nat.zero_le _) h.size).lst) (Nat.le_refl _) (by rw [List.length_append]; exact hc4) hm4 (HTW.out _ (below_next HB6.out HB6.out.size h)).1 false (iff_false HNM.out)
          simpa only [cval, List.length_append] using hh)
        have CY := Lib.hid (fun (W' : World) (h : Below w6.heap.size w6 W') => cright_any ⟨t, n, f, s, D⟩ HD.out A W'.heap.size c W' ((HSV6.out.below (h.mono (by omega))).more (by have := h.size; omega)) (Nat.le_refl _) hc hm (HTW.out _ (below_next HB6.out HB6.out.size h)).1 true (iff_true HCR.out))
        have hlen : ((D.length : Int) == (D.length : Int)) = true := by simp
        refine wp_region_held_drew (S := (fun w' => (w'.cell? ⟨w.heap.size, 0, none⟩ = some (.int .u64 t) ∧ w'.cell? ⟨w.heap.size, 1, none⟩ = some (.int .u64 n) ∧ w'.cell? ⟨w.heap.size, 2, none⟩ = some (.int .u64 f) ∧ w'.cell? ⟨w.heap.size, 3, none⟩ = some (.int .i64 s) ∧ w'.cell? ⟨w.heap.size, 4, none⟩ = some (.slice A D.length c)) ∧ (w'.cell? ⟨m7, 0, none⟩ = some (.int .u64 t) ∧ w'.cell? ⟨m7, 1, none⟩ = some (.int .u64 n) ∧ w'.cell? ⟨m7, 2, none⟩ = some (.int .u64 f) ∧ w'.cell? ⟨m7, 3, none⟩ = some (.int .i64 s) ∧ w'.cell? ⟨m7, 4, none⟩ = some (.slice A4 (D.length + ys.length) c4)) ∧ (w'.cell? ⟨m8, 0, none⟩ = some (.int .u64 t) ∧ w'.cell? ⟨m8, 1, none⟩ = some (.int .u64 n) ∧ w'.cell? ⟨m8, 2, none⟩ = some (.int .u64 f) ∧ w'.cell? ⟨m8, 3, none⟩ = some (.int .i64 s) ∧ w'.cell? ⟨m8, 4, none⟩ = some (.slice A D.length c)))) (by kernel_rfl) (KL.out _ HBd.out) (fun hHeld => ?_)
        refine wpAnyH_ready (rs := [0]) (by kernel_rfl) (by simp) ?_
        refine AllReadyH.cons (o := ({ dst := some 67, op := Op.call { callee := Callee.value (Operand.func 15), args := #[], argTypes := #[] }, type := 4, pos := "outright.go:49", after := #[], guard := none })) rfl (fun K hK => ?_) AllReadyH.nil
        go_simp
        refine (CAl.out _ HBD.out).mono ?_
        rintro e wA ⟨rfl, hbA⟩
        have HBA := Lib.hid (below_next HBd.out HBd.out.size hbA)
        clear hbA
        refine hK.out _ _ ?_ (fun hHeld2 => ?_)
        · (try dsimp only)
          exact KL.out _ HBA.out
        clear hK K hHeld
        rename _ => hHeld
        try simp only [Act.put, List.setIfInBounds_toArray, List.set_cons_zero, List.set_cons_succ]
        first
        | (refine wpAnyH_take (i := 1) (oi := ({ dst := some 68, op := Op.move (Operand.tmp 67), type := 4, pos := "outright.go:49", after := #[{ on := 0, ground := Ground.data }, { on := 0, ground := Ground.chain }], guard := none })) (v := ?_) rfl (by kernel_rfl) (by kernel_rfl) (by kernel_rfl) (fun _ _ _ h => h) (Or.inl ⟨by rfl, ?_⟩) hHeld ?_
           rotate_left
           · intro w hSw
             (try dsimp only at hSw)
             go_simp
             try with_reducible rfl
           try simp only [Act.put, List.setIfInBounds_toArray, List.set_cons_zero, List.set_cons_succ])
        | fail
        first
        | (refine wpAnyH_take (i := 2) (oi := ({ dst := some 69, op := Op.load 46 (Operand.tmp 7), type := 46, pos := "outright.go:49", after := #[{ on := 1, ground := Ground.guard }], guard := some (1, true) })) (v := ?_) rfl (by kernel_rfl) (by kernel_rfl) (by kernel_rfl) (fun _ _ _ h => h) (Or.inl ⟨by rfl, ?_⟩) hHeld ?_
           rotate_left
           · intro w hSw
             (try dsimp only at hSw)
             go_simp
             try with_reducible rfl
           try simp only [Act.put, List.setIfInBounds_toArray, List.set_cons_zero, List.set_cons_succ])
        | fail
        refine wpAnyH_ready (rs := [3]) (by kernel_rfl) (by simp) ?_
        refine AllReadyH.cons (o := ({ dst := some 70, op := Op.call { callee := Callee.value (Operand.func 26), args := #[Operand.tmp 69], argTypes := #[46] }, type := 4, pos := "outright.go:49", after := #[{ on := 2, ground := Ground.data }, { on := 1, ground := Ground.chain }, { on := 1, ground := Ground.guard }], guard := some (1, true) })) rfl (fun K hK => ?_) AllReadyH.nil
        go_simp
        refine (CX.out _ HBA.out).mono ?_
        rintro e wB ⟨rfl, hbB⟩
        have HBB := Lib.hid (below_next HBA.out HBA.out.size hbB)
        clear hbB
        refine hK.out _ _ ?_ (fun hHeld2 => ?_)
        · (try dsimp only)
          exact KL.out _ HBB.out
        clear hK K hHeld
        rename _ => hHeld
        try simp only [Act.put, List.setIfInBounds_toArray, List.set_cons_zero, List.set_cons_succ]
        first
        | (refine wpAnyH_take (i := 4) (oi := ({ dst := some 71, op := Op.unOp UnOp.not 4 (Operand.tmp 70), type := 4, pos := "outright.go:49", after := #[{ on := 3, ground := Ground.data }, { on := 1, ground := Ground.guard }], guard := some (1, true) })) (v := ?_) rfl (by kernel_rfl) (by kernel_rfl) (by kernel_rfl) (fun _ _ _ h => h) (Or.inl ⟨by rfl, ?_⟩) hHeld ?_
           rotate_left
           · intro w hSw
             (try dsimp only at hSw)
             go_simp
             try with_reducible rfl
           try simp only [Act.put, List.setIfInBounds_toArray, List.set_cons_zero, List.set_cons_succ])
        | fail
        first
        | (refine wpAnyH_take (i := 5) (oi := ({ dst := some 72, op := Op.pick (Operand.tmp 68) (Operand.tmp 71) (Operand.const (Value.bool false)), type := 4, pos := "outright.go:49", after := #[{ on := 1, ground := Ground.data }, { on := 4, ground := Ground.data }], guard := none })) (v := ?_) rfl (by kernel_rfl) (by kernel_rfl) (by kernel_rfl) (fun _ _ _ h => h) (Or.inl ⟨by rfl, ?_⟩) hHeld ?_
           rotate_left
           · intro w hSw
             (try dsimp only at hSw)
             go_simp
             try with_reducible rfl
           try simp only [Act.put, List.setIfInBounds_toArray, List.set_cons_zero, List.set_cons_succ])
        | fail
        first
        | (refine wpAnyH_take (i := 6) (oi := ({ dst := some 73, op := Op.move (Operand.tmp 72), type := 4, pos := "outright.go:49", after := #[{ on := 5, ground := Ground.data }, { on := 3, ground := Ground.chain }], guard := none })) (v := ?_) rfl (by kernel_rfl) (by kernel_rfl) (by kernel_rfl) (fun _ _ _ h => h) (Or.inl ⟨by rfl, ?_⟩) hHeld ?_
           rotate_left
           · intro w hSw
             (try dsimp only at hSw)
             go_simp
             try with_reducible rfl
           try simp only [Act.put, List.setIfInBounds_toArray, List.set_cons_zero, List.set_cons_succ])
        | fail
        first
        | (refine wpAnyH_take (i := 7) (oi := ({ dst := some 74, op := Op.load 46 (Operand.tmp 8), type := 46, pos := "outright.go:49", after := #[{ on := 6, ground := Ground.guard }], guard := some (6, true) })) (v := ?_) rfl (by kernel_rfl) (by kernel_rfl) (by kernel_rfl) (fun _ _ _ h => h) (Or.inl ⟨by rfl, ?_⟩) hHeld ?_
           rotate_left
           · intro w hSw
             (try dsimp only at hSw)
             go_simp
             try with_reducible rfl
           try simp only [Act.put, List.setIfInBounds_toArray, List.set_cons_zero, List.set_cons_succ])
        | fail
        first
        | (refine wpAnyH_take (i := 9) (oi := ({ dst := some 76, op := Op.fieldAddr 46 (Operand.tmp 8) 4, type := 0, pos := "outright.go:49", after := #[{ on := 6, ground := Ground.guard }], guard := some (6, true) })) (v := ?_) rfl (by kernel_rfl) (by kernel_rfl) (by kernel_rfl) (fun _ _ _ h => h) (Or.inl ⟨by rfl, ?_⟩) hHeld ?_
           rotate_left
           · intro w hSw
             (try dsimp only at hSw)
             go_simp
             try with_reducible rfl
           try simp only [Act.put, List.setIfInBounds_toArray, List.set_cons_zero, List.set_cons_succ])
        | fail
        first
        | (refine wpAnyH_take (i := 10) (oi := ({ dst := some 77, op := Op.load 23 (Operand.tmp 76), type := 23, pos := "outright.go:49", after := #[{ on := 9, ground := Ground.data }, { on := 6, ground := Ground.guard }], guard := some (6, true) })) (v := ?_) rfl (by kernel_rfl) (by kernel_rfl) (by kernel_rfl) (fun _ _ _ h => h) (Or.inl ⟨by rfl, ?_⟩) hHeld ?_
           rotate_left
           · intro w hSw
             (try dsimp only at hSw)
             go_simp
             try with_reducible rfl
           try simp only [Act.put, List.setIfInBounds_toArray, List.set_cons_zero, List.set_cons_succ])
        | fail
        first
        | (refine wpAnyH_take (i := 11) (oi := ({ dst := some 78, op := Op.call { callee := Callee.builtin Builtin.len, args := #[Operand.tmp 77], argTypes := #[23] }, type := 3, pos := "outright.go:49", after := #[{ on := 10, ground := Ground.data }, { on := 6, ground := Ground.guard }], guard := some (6, true) })) (v := ?_) rfl (by kernel_rfl) (by kernel_rfl) (by kernel_rfl) (fun _ _ _ h => h) (Or.inl ⟨by rfl, ?_⟩) hHeld ?_
           rotate_left
           · intro w hSw
             (try dsimp only at hSw)
             go_simp
             try with_reducible rfl
           try simp only [Act.put, List.setIfInBounds_toArray, List.set_cons_zero, List.set_cons_succ])
        | fail
        first
        | (refine wpAnyH_take (i := 12) (oi := ({ dst := some 79, op := Op.fieldAddr 46 (Operand.tmp 3) 4, type := 0, pos := "outright.go:49", after := #[{ on := 6, ground := Ground.guard }], guard := some (6, true) })) (v := ?_) rfl (by kernel_rfl) (by kernel_rfl) (by kernel_rfl) (fun _ _ _ h => h) (Or.inl ⟨by rfl, ?_⟩) hHeld ?_
           rotate_left
           · intro w hSw
             (try dsimp only at hSw)
             go_simp
             try with_reducible rfl
           try simp only [Act.put, List.setIfInBounds_toArray, List.set_cons_zero, List.set_cons_succ])
        | fail
        first
        | (refine wpAnyH_take (i := 13) (oi := ({ dst := some 80, op := Op.load 23 (Operand.tmp 79), type := 23, pos := "outright.go:49", after := #[{ on := 12, ground := Ground.data }, { on := 6, ground := Ground.guard }], guard := some (6, true) })) (v := ?_) rfl (by kernel_rfl) (by kernel_rfl) (by kernel_rfl) (fun _ _ _ h => h) (Or.inl ⟨by rfl, ?_⟩) hHeld ?_
           rotate_left
           · intro w hSw
             (try dsimp only at hSw)
             go_simp
             try with_reducible rfl
           try simp only [Act.put, List.setIfInBounds_toArray, List.set_cons_zero, List.set_cons_succ])
        | fail
        first
        | (refine wpAnyH_take (i := 14) (oi := ({ dst := some 81, op := Op.call { callee := Callee.builtin Builtin.len, args := #[Operand.tmp 80], argTypes := #[23] }, type := 3, pos := "outright.go:49", after := #[{ on := 13, ground := Ground.data }, { on := 6, ground := Ground.guard }], guard := some (6, true) })) (v := ?_) rfl (by kernel_rfl) (by kernel_rfl) (by kernel_rfl) (fun _ _ _ h => h) (Or.inl ⟨by rfl, ?_⟩) hHeld ?_
           rotate_left
           · intro w hSw
             (try dsimp only at hSw)
             go_simp
             try with_reducible rfl
           try simp only [Act.put, List.setIfInBounds_toArray, List.set_cons_zero, List.set_cons_succ])
        | fail
        first
        | (refine wpAnyH_take (i := 15) (oi := ({ dst := some 82, op := Op.binOp BinOp.eql 3 (Operand.tmp 78) (Operand.tmp 81) 3, type := 4, pos := "outright.go:49", after := #[{ on := 11, ground := Ground.data }, { on := 14, ground := Ground.data }, { on := 6, ground := Ground.guard }], guard := some (6, true) })) (v := ?_) rfl (by kernel_rfl) (by kernel_rfl) (by kernel_rfl) (fun _ _ _ h => h) (Or.inl ⟨by rfl, ?_⟩) hHeld ?_
           rotate_left
           · intro w hSw
             (try dsimp only at hSw)
             go_simp
             try with_reducible rfl
           try simp only [Act.put, List.setIfInBounds_toArray, List.set_cons_zero, List.set_cons_succ])
        | fail
        refine wpAnyH_ready (rs := [8]) (by kernel_rfl) (by simp) ?_
        refine AllReadyH.cons (o := ({ dst := some 75, op := Op.call { callee := Callee.value (Operand.func 26), args := #[Operand.tmp 74], argTypes := #[46] }, type := 4, pos := "outright.go:49", after := #[{ on := 7, ground := Ground.data }, { on := 6, ground := Ground.chain }, { on := 6, ground := Ground.guard }], guard := some (6, true) })) rfl (fun K hK => ?_) AllReadyH.nil
        go_simp
        refine (CY.out _ HBB.out).mono ?_
        rintro e wC ⟨rfl, hbC⟩
        have HBE := Lib.hid (below_next HBB.out HBB.out.size hbC)
        clear hbC
        refine hK.out _ _ ?_ (fun hHeld2 => ?_)
        · (try dsimp only)
          exact KL.out _ HBE.out
        clear hK K hHeld
        rename _ => hHeld
        try simp only [Act.put, List.setIfInBounds_toArray, List.set_cons_zero, List.set_cons_succ]
        first
        | (refine wpAnyH_take (i := 16) (oi := ({ dst := some 83, op := Op.binOp BinOp.eql 4 (Operand.tmp 75) (Operand.tmp 82) 4, type := 4, pos := "outright.go:49", after := #[{ on := 8, ground := Ground.data }, { on := 15, ground := Ground.data }, { on := 6, ground := Ground.guard }], guard := some (6, true) })) (v := ?_) rfl (by kernel_rfl) (by kernel_rfl) (by kernel_rfl) (fun _ _ _ h => h) (Or.inl ⟨by rfl, ?_⟩) hHeld ?_
           rotate_left
           · intro w hSw
             (try dsimp only at hSw)
             go_simp
             try with_reducible rfl
           try simp only [Act.put, List.setIfInBounds_toArray, List.set_cons_zero, List.set_cons_succ])
        | fail
        first
        | (refine wpAnyH_take (i := 17) (oi := ({ dst := some 84, op := Op.pick (Operand.tmp 73) (Operand.tmp 83) (Operand.const (Value.bool false)), type := 4, pos := "outright.go:49", after := #[{ on := 6, ground := Ground.data }, { on := 16, ground := Ground.data }], guard := none })) (v := ?_) rfl (by kernel_rfl) (by kernel_rfl) (by kernel_rfl) (fun _ _ _ h => h) (Or.inl ⟨by rfl, ?_⟩) hHeld ?_
           rotate_left
           · intro w hSw
             (try dsimp only at hSw)
             go_simp
             try with_reducible rfl
           try simp only [Act.put, List.setIfInBounds_toArray, List.set_cons_zero, List.set_cons_succ])
        | fail
        first
        | (refine wpAnyH_take (i := 18) (oi := ({ dst := some 6, op := Op.assign (Operand.tmp 84), type := 4, pos := "outright.go:49", after := #[{ on := 17, ground := Ground.data }, { on := 8, ground := Ground.chain }, { on := 0, ground := Ground.phase }, { on := 1, ground := Ground.phase }, { on := 2, ground := Ground.phase }, { on := 3, ground := Ground.phase }, { on := 4, ground := Ground.phase }, { on := 5, ground := Ground.phase }, { on := 6, ground := Ground.phase }, { on := 7, ground := Ground.phase }, { on := 8, ground := Ground.phase }, { on := 9, ground := Ground.phase }, { on := 10, ground := Ground.phase }, { on := 11, ground := Ground.phase }, { on := 12, ground := Ground.phase }, { on := 13, ground := Ground.phase }, { on := 14, ground := Ground.phase }, { on := 15, ground := Ground.phase }, { on := 16, ground := Ground.phase }, { on := 17, ground := Ground.phase }], guard := none })) (v := ?_) rfl (by kernel_rfl) (by kernel_rfl) (by kernel_rfl) (fun _ _ _ h => h) (Or.inl ⟨by rfl, ?_⟩) hHeld ?_
           rotate_left
           · intro w hSw
             (try dsimp only at hSw)
             go_simp
             try with_reducible rfl
           try simp only [Act.put, List.setIfInBounds_toArray, List.set_cons_zero, List.set_cons_succ])
        | fail
        refine wpAnyH_done (by kernel_rfl) ?_ _
        go_wp2_with fail
        go_ret
        exact ⟨rfl, below_next HB6.out HB6.out.size HBE.out⟩
  · clear HQ HMN HCN HSD HSY
    go_wp2_with fail
    refine (CAl.out _ HB1.out).mono ?_
    rintro e wz ⟨rfl, hbz⟩
    have HBz := Lib.hid (below_next HB1.out HB1.out.size hbz)
    clear hbz
    go_wp2_with fail
    go_ret
    exact ⟨rfl, HBz.out⟩
end Go.Proofs.YthknkdphofjmhaaDoor.CanonMore
