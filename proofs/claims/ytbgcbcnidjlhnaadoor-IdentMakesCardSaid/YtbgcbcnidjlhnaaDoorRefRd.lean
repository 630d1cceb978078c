/- The contract of the reference's Read (layer 4). -/
import Derived.Test.YtbgcbcnidjlhnaaDoorRefRdP
import Derived.Deep.RegionWith
namespace Go.Proofs.YtbgcbcnidjlhnaaDoor.Eid
open Go.RowKit Wd Cb EidL

theorem set5_item {w : World} {g hi : Nat} {x : Itm} {v : Value} (h : ItemV w 0 hi x v) (hn : hi ≤ g) (a b c d e : Value) : ItemV (set5 w g a b c d e) 0 hi x v :=
  ((((h.set_ (p := ⟨g, 0, none⟩) (.inr hn) a).set_ (p := ⟨g, 1, none⟩) (.inr hn) b).set_ (p := ⟨g, 2, none⟩) (.inr hn) c).set_ (p := ⟨g, 3, none⟩) (.inr hn) d).set_ (p := ⟨g, 4, none⟩) (.inr hn) e

set_option maxRecDepth 100000 in
set_option maxHeartbeats 8000000 in
theorem read04_any (x : Itm) (v : Value) (w : World) (hv : ItemV w 0 w.heap.size x v) (hsx : size x ≤ 100000) (hbs : ∀ k (h : k < x.sub.length), (x.sub[k]).bs.length ≤ 5000) :
    Calls Tryd.prog 53 #[v] w fun e w' => e = .returned (.tuple #[(r4Val x).val, .bool (r4Ok x)]) ∧ Below w.heap.size w w' := by
  obtain ⟨A, c, A', c', rfl, hk, hn, hb, h1, h2, h3, h4, h5, h6⟩ := hv.open_
  have HB := Lib.hid (((Below.refl w.heap.size w).alloc (Nat.le_refl _) (.cells #[.int .i64 x.kind, .int .u64 x.num, .slice A x.bs.length c, .slice A' x.sub.length c'] 49)).alloc (by simp) (.cells #[.bool false, .int .u64 0, .int .u64 0, .string ⟨#[]⟩, .string ⟨#[]⟩] 34))
  have HK := Lib.hid ((Blk.new w 49 #[.int .i64 x.kind, .int .u64 x.num, .slice A x.bs.length c, .slice A' x.sub.length c']).alloc (.cells #[.bool false, .int .u64 0, .int .u64 0, .string ⟨#[]⟩, .string ⟨#[]⟩] 34))
  have HZ := Lib.hid (Blk.new (w.alloc (.cells #[.int .i64 x.kind, .int .u64 x.num, .slice A x.bs.length c, .slice A' x.sub.length c'] 49)) 34 #[.bool false, .int .u64 0, .int .u64 0, .string ⟨#[]⟩, .string ⟨#[]⟩])
  rw [World.size_alloc] at HZ
  have HW2 : Hid (((w.alloc (.cells #[.int .i64 x.kind, .int .u64 x.num, .slice A x.bs.length c, .slice A' x.sub.length c'] 49)).alloc (.cells #[.bool false, .int .u64 0, .int .u64 0, .string ⟨#[]⟩, .string ⟨#[]⟩] 34)).heap.size = w.heap.size + 1 + 1) := Lib.hid (by simp)
  have HX := Lib.hid (hv.below HB.out)
  have HI := Lib.hid (h6.below HB.out)
  clear hv h3 h6 hk hn hb
  unfold maxLen at h5 h2
  by_cases h : x.kind = 4 ∧ x.sub.length = 2
  rotate_left
  · have HRC := Lib.hid (r4_none (x := x) (by unfold rcand; rw [if_neg h]))
    have HR := Lib.hid (show (r4Val x).val = zeroNm.val by rw [HRC.out.1])
    have HE := Lib.hid HRC.out.2
    clear HX HI
    go_enter Tryd.func53, Tryd.ntmps53
    go_upto_region 1 with (fail)
    generalize (w.alloc (.cells #[.int .i64 x.kind, .int .u64 x.num, .slice A x.bs.length c, .slice A' x.sub.length c'] 49)).alloc (.cells #[.bool false, .int .u64 0, .int .u64 0, .string ⟨#[]⟩, .string ⟨#[]⟩] 34) = W at *
    obtain ⟨k0, k1, k2, k3⟩ := cell4 HK.out
    obtain ⟨c0, c1, c2, c3, c4⟩ := cells5 HZ.out
    obtain ⟨f0, f1, f2, f3, f4⟩ := froz5 HZ.out
    by_cases hk4 : x.kind = 4
    · have t0 : (x.kind != 4) = false := by simpa using hk4
      have t1 : ((x.sub.length : Int) != 2) = true := by simp only [bne_iff_ne, ne_eq]; omega
      clear h hk4
      go_wp2_with fail
      have HK9 := Lib.hid (set5_blk HZ.out (.bool false) (.int .u64 0) (.int .u64 0) (.string ⟨#[]⟩) (.string ⟨#[]⟩))
      have HB9 := Lib.hid (set5_below HB.out (Nat.le_succ _) (.bool false) (.int .u64 0) (.int .u64 0) (.string ⟨#[]⟩) (.string ⟨#[]⟩))
      clear c0 c1 c2 c3 c4 f0 f1 f2 f3 f4 k0 k1 k2 k3
      generalize hW9 : set5 W (w.heap.size + 1) (.bool false) (.int .u64 0) (.int .u64 0) (.string ⟨#[]⟩) (.string ⟨#[]⟩) = W9 at HK9 HB9
      unfold set5 at hW9
      rw [hW9]
      obtain ⟨c0, c1, c2, c3, c4⟩ := cells5 HK9.out
      refine bodyPost_ret (v := .tuple #[(r4Val x).val, .bool (r4Ok x)]) (by rw [HR.out, HE.out]; simp [results, Tryd.results53, go_sem, *]) rfl ⟨rfl, HB9.out⟩
    · have t0 : (x.kind != 4) = true := by simpa using hk4
      clear h hk4
      go_wp2_with fail
      have HK9 := Lib.hid (set5_blk HZ.out (.bool false) (.int .u64 0) (.int .u64 0) (.string ⟨#[]⟩) (.string ⟨#[]⟩))
      have HB9 := Lib.hid (set5_below HB.out (Nat.le_succ _) (.bool false) (.int .u64 0) (.int .u64 0) (.string ⟨#[]⟩) (.string ⟨#[]⟩))
      clear c0 c1 c2 c3 c4 f0 f1 f2 f3 f4 k0 k1 k2 k3
      generalize hW9 : set5 W (w.heap.size + 1) (.bool false) (.int .u64 0) (.int .u64 0) (.string ⟨#[]⟩) (.string ⟨#[]⟩) = W9 at HK9 HB9
      unfold set5 at hW9
      rw [hW9]
      obtain ⟨c0, c1, c2, c3, c4⟩ := cells5 HK9.out
      refine bodyPost_ret (v := .tuple #[(r4Val x).val, .bool (r4Ok x)]) (by rw [HR.out, HE.out]; simp [results, Tryd.results53, go_sem, *]) rfl ⟨rfl, HB9.out⟩
  · obtain ⟨hx4, h⟩ := h
    obtain ⟨b, o, A3, e3, A4, e4, rfl, hlo, hhi, g0, g1, g2, g3, p1, p2, p3, p4, p5, p6, p7, p8, p9⟩ := HI.out.at_ (k := 1) (by omega)
    have hbz := hbs 1 (by omega)
    have hgd : x.sub.getD 1 (iN 0) = x.sub[1]'(by omega) := by simp only [List.getD, List.getElem?_eq_getElem (show 1 < x.sub.length by omega), Option.getD_some]
    generalize x.sub[1]'(by omega) = z at *
    have HRC : Hid (rcand x = zcand z) := Lib.hid (by unfold rcand; rw [if_pos ⟨hx4, h⟩, hgd])
    have HZS := Lib.hid p6.lst
    have HZI := Lib.hid p9
    have HZN : Hid (∀ k (h : k < z.sub.length), 0 ≤ (z.sub[k]).num ∧ (z.sub[k]).num ≤ 18446744073709551615) := Lib.hid (fun k hk => by
      obtain ⟨_, _, _, _, _, _, _, _, _, _, _, _, _, _, q, _⟩ := p9.at_ hk
      exact q)
    unfold maxLen at p5 p8
    clear p1 p2 p3 p6 p9 hgd hbs
    simp only [Nat.one_mul] at g0 g1 g2 g3
    clear HI
    have t0 : (x.kind != 4) = false := by simp [hx4]
    clear hx4
    have hbW : b < ((w.alloc (.cells #[.int .i64 x.kind, .int .u64 x.num, .slice A x.bs.length c, .slice (some ⟨b, o, none⟩) x.sub.length c'] 49)).alloc (.cells #[.bool false, .int .u64 0, .int .u64 0, .string ⟨#[]⟩, .string ⟨#[]⟩] 34)).heap.size := Nat.lt_of_lt_of_le hhi HB.out.size
    clear hhi
    generalize hL : x.sub.length = L at *
    subst h
    clear hL
    go_enter Tryd.func53, Tryd.ntmps53
    go_upto_region 1 with (fail)
    generalize (w.alloc (.cells #[.int .i64 x.kind, .int .u64 x.num, .slice A x.bs.length c, .slice (some ⟨b, o, none⟩) 2 c'] 49)).alloc (.cells #[.bool false, .int .u64 0, .int .u64 0, .string ⟨#[]⟩, .string ⟨#[]⟩] 34) = W at *
    obtain ⟨k0, k1, k2, k3⟩ := cell4 HK.out
    have hW2 := HW2.out
    have G0 := Lib.hid (fun (W' : World) (hW : Below W.heap.size W W') => And.intro (hW.cell (p := ⟨b, o + 4, none⟩) hbW |>.trans g0) (And.intro (hW.cell (p := ⟨b, o + 4 + 1, none⟩) hbW |>.trans g1) (And.intro (hW.cell (p := ⟨b, o + 4 + 2, none⟩) hbW |>.trans g2) (hW.cell (p := ⟨b, o + 4 + 3, none⟩) hbW |>.trans g3))))
    have KA := fun a => (HK.out.alloc a)
    have k3a : ∀ a, (W.alloc a).cell? ⟨w.heap.size, 3, none⟩ = some (.slice (some ⟨b, o, none⟩) 2 c') := fun a => by simpa using (HK.out.alloc a).cell 3
    have g0a : ∀ a, (W.alloc a).cell? ⟨b, o + 4, none⟩ = some (.int .i64 z.kind) := fun a => (G0.out _ ((Below.refl _ W).alloc (Nat.le_refl _) a)).1
    have g1a : ∀ a, (W.alloc a).cell? ⟨b, o + 4 + 1, none⟩ = some (.int .u64 z.num) := fun a => (G0.out _ ((Below.refl _ W).alloc (Nat.le_refl _) a)).2.1
    have g2a : ∀ a, (W.alloc a).cell? ⟨b, o + 4 + 2, none⟩ = some (.slice A3 z.bs.length e3) := fun a => (G0.out _ ((Below.refl _ W).alloc (Nat.le_refl _) a)).2.2.1
    have g3a : ∀ a, (W.alloc a).cell? ⟨b, o + 4 + 3, none⟩ = some (.slice A4 z.sub.length e4) := fun a => (G0.out _ ((Below.refl _ W).alloc (Nat.le_refl _) a)).2.2.2
    clear KA
    go_upto_region 5 with (fail)
    have HB2 := Lib.hid ((HB.out.alloc HB.out.size (.cells #[.bool false, .int .u64 0, .int .u64 0, .string ⟨#[]⟩, .string ⟨#[]⟩] 34)).alloc (Nat.le_trans HB.out.size (by simp)) (.cells #[.int .i64 z.kind, .int .u64 z.num, .slice A3 z.bs.length e3, .slice A4 z.sub.length e4] 49))
    have HBW := Lib.hid (((Below.refl W.heap.size W).alloc (Nat.le_refl _) (.cells #[.bool false, .int .u64 0, .int .u64 0, .string ⟨#[]⟩, .string ⟨#[]⟩] 34)).alloc (by simp) (.cells #[.int .i64 z.kind, .int .u64 z.num, .slice A3 z.bs.length e3, .slice A4 z.sub.length e4] 49))
    have HK2 := Lib.hid ((HK.out.alloc (.cells #[.bool false, .int .u64 0, .int .u64 0, .string ⟨#[]⟩, .string ⟨#[]⟩] 34)).alloc (.cells #[.int .i64 z.kind, .int .u64 z.num, .slice A3 z.bs.length e3, .slice A4 z.sub.length e4] 49))
    have HZ2 := Lib.hid ((HZ.out.alloc (.cells #[.bool false, .int .u64 0, .int .u64 0, .string ⟨#[]⟩, .string ⟨#[]⟩] 34)).alloc (.cells #[.int .i64 z.kind, .int .u64 z.num, .slice A3 z.bs.length e3, .slice A4 z.sub.length e4] 49))
    have HXX := (Blk.new W 34 #[.bool false, .int .u64 0, .int .u64 0, .string ⟨#[]⟩, .string ⟨#[]⟩]).alloc (.cells #[.int .i64 z.kind, .int .u64 z.num, .slice A3 z.bs.length e3, .slice A4 z.sub.length e4] 49)
    have HVV := Blk.new (W.alloc (.cells #[.bool false, .int .u64 0, .int .u64 0, .string ⟨#[]⟩, .string ⟨#[]⟩] 34)) 49 #[.int .i64 z.kind, .int .u64 z.num, .slice A3 z.bs.length e3, .slice A4 z.sub.length e4]
    rw [World.size_alloc, hW2] at HVV
    rw [hW2] at HXX
    have HX2 := Lib.hid HXX
    have HV2 := Lib.hid HVV
    have HI2 := Lib.hid (HX.out.below (HBW.out.mono HB.out.size))
    have HZS2 := Lib.hid (HZS.out.below' HBW.out HB.out.size)
    have HZI2 := Lib.hid (HZI.out.below (HBW.out.mono HB.out.size))
    clear HXX HVV HB HK HZ HX HZS HZI k0 k1 k2 k3 k3a g0a g1a g2a g3a g0 g1 g2 g3 G0 hW2 hbW t0 hlo HBW HW2
    generalize (W.alloc (.cells #[.bool false, .int .u64 0, .int .u64 0, .string ⟨#[]⟩, .string ⟨#[]⟩] 34)).alloc (.cells #[.int .i64 z.kind, .int .u64 z.num, .slice A3 z.bs.length e3, .slice A4 z.sub.length e4] 49) = W2 at *
    by_cases hz4 : z.kind = 4 ∧ z.sub.length = 2
    · obtain ⟨hz4, hzl⟩ := hz4
      obtain ⟨b2, o2, A5, e5, A6, e6, rfl, -, -, -, y1, -⟩ := HZI2.out.at_ (k := 0) (by omega)
      obtain ⟨b3, o3, A7, e7, A8, e8, ea, -, -, -, y2, -⟩ := HZI2.out.at_ (k := 1) (by omega)
      simp only [Option.some.injEq, Addr.mk.injEq, and_true] at ea
      obtain ⟨rfl, rfl⟩ := ea
      have hn0 := HZN.out 0 (by omega)
      have hn1 := HZN.out 1 (by omega)
      have HRC2 : Hid (rcand x = some ⟨true, (z.sub[0]'(by omega)).num, (z.sub[1]'(by omega)).num, ⟨#[]⟩, ⟨#[]⟩⟩) := Lib.hid (by
        rw [HRC.out]
        unfold zcand
        rw [if_pos ⟨hz4, hzl⟩]
        simp only [List.getD, List.getElem?_eq_getElem (show 0 < z.sub.length by omega), List.getElem?_eq_getElem (show 1 < z.sub.length by omega), Option.getD_some])
      have t1 : (z.kind == 4) = true := by simpa using hz4
      have t3 : (z.kind == 3) = false := by simp only [beq_eq_false_iff_ne, ne_eq]; omega
      generalize (z.sub[0]'(by omega)).num = n0 at *
      generalize (z.sub[1]'(by omega)).num = n1 at *
      have HOK : Hid (Nm.ok ⟨true, n0, n1, ⟨#[]⟩, ⟨#[]⟩⟩) := Lib.hid ⟨hn0.1, hn0.2, hn1.1, hn1.2, Nat.zero_le _, Nat.zero_le _⟩
      have HVL := Lib.hid (r4_some HRC2.out).1
      have HOL := Lib.hid (r4_some HRC2.out).2
      clear HZI2 HZN HRC HRC2 hn0 hn1 HZS2 hz4 hbz
      generalize z.sub.length = L2 at *
      subst hzl
      simp only [Nat.zero_mul, Nat.add_zero, Nat.one_mul] at y1 y2
      obtain ⟨v0, v1, v2, v3⟩ := cell4 HV2.out
      obtain ⟨x0, x1, x2, x3, x4⟩ := cells5 HX2.out
      obtain ⟨f0, f1, f2, f3, f4⟩ := froz5 HX2.out
      go_upto_region 6 with (fail)
      go_region
      have HX3 := Lib.hid (set5_blk HX2.out (.bool true) (.int .u64 n0) (.int .u64 n1) (.string ⟨#[]⟩) (.string ⟨#[]⟩)).drew
      have HB3 := Lib.hid (set5_below HB2.out (by omega : w.heap.size ≤ w.heap.size + 1 + 1) (.bool true) (.int .u64 n0) (.int .u64 n1) (.string ⟨#[]⟩) (.string ⟨#[]⟩)).drew
      have HZ3 := Lib.hid (set5_far HZ2.out (by omega : w.heap.size + 1 ≠ w.heap.size + 1 + 1) (.bool true) (.int .u64 n0) (.int .u64 n1) (.string ⟨#[]⟩) (.string ⟨#[]⟩)).drew
      have HK3 := Lib.hid (set5_far HK2.out (by omega : w.heap.size ≠ w.heap.size + 1 + 1) (.bool true) (.int .u64 n0) (.int .u64 n1) (.string ⟨#[]⟩) (.string ⟨#[]⟩)).drew
      have HV3 := Lib.hid (set5_far HV2.out (by omega : w.heap.size + 1 + 1 + 1 ≠ w.heap.size + 1 + 1) (.bool true) (.int .u64 n0) (.int .u64 n1) (.string ⟨#[]⟩) (.string ⟨#[]⟩)).drew
      have HI3 := Lib.hid ((set5_item HI2.out (by omega : w.heap.size ≤ w.heap.size + 1 + 1) (.bool true) (.int .u64 n0) (.int .u64 n1) (.string ⟨#[]⟩) (.string ⟨#[]⟩)).drew)
      clear y1 y2 v0 v1 v2 v3 x0 x1 x2 x3 x4 f0 f1 f2 f3 f4 HX2 HB2 HZ2 HK2 HV2
      generalize hW3 : (set5 W2 (w.heap.size + 1 + 1) (.bool true) (.int .u64 n0) (.int .u64 n1) (.string ⟨#[]⟩) (.string ⟨#[]⟩)).drew = W3 at HX3 HB3 HZ3 HK3 HV3 HI3 ⊢
      clear hW3 HI2
      have HI3' := Lib.hid (HI3.out.more (Nat.le_refl _) HB3.out.size)
      obtain ⟨v0, v1, v2, v3⟩ := cell4 HV3.out
      go_upto_region 12 with (fail)
      clear v0 v1 v2 v3 HV3 HI3
      have HI3 := HI3'
      clear HI3'
      generalize hcd : (⟨true, n0, n1, ⟨#[]⟩, ⟨#[]⟩⟩ : Nm) = cand at *
      have HX3' : Hid (Blk W3 (w.heap.size + 1 + 1) 34 cand.cells) := Lib.hid (by rw [← hcd]; exact HX3.out)
      clear HX3 hcd
      have HX3 := HX3'
      clear HX3'
      have CK := Lib.hid (fun w' => kind04_any cand HOK.out w')
      have CW := Lib.hid (fun hr w' => write04_any cand HOK.out hr w')
      have HISZ := Lib.hid (itemOf_size cand)
      have HRK : Hid (rk cand = if right cand then kd cand else -1) := Lib.hid rfl
      have HKD := Lib.hid (kd_cases cand)
      generalize right cand = r at *
      generalize kd cand = kdc at *
      generalize rk cand = K at *
      generalize itemOf cand = T at *
      clear HOK
      have CS := Lib.hid (fun v u w' hv hu => RefSame.refSame_any 100 T x v u w' (by have := HISZ.out.2; omega) hv hu (by have := HISZ.out.1; omega) hsx)
      generalize same T x = sm at *
      obtain ⟨i, n, s5, hh, d⟩ := cand
      have KC := Lib.hid (fun (W' : World) (h : Below W3.heap.size W3 W') => And.intro (cells5 (HX3.out.next h)) (cell4 (HK3.out.next h)))
      have HBd := Lib.hid (show Below W3.heap.size W3 W3.drew from (Below.refl _ W3).drew)
      obtain ⟨⟨x0, x1, x2, x3, x4⟩, k0, k1, k2, k3⟩ := KC.out W3 (Below.refl _ _)
      cases r
      · have e1 : K = -1 := HRK.out
        have t8 : decide (K < 0) = true := decide_eq_true (by omega)
        clear e1
        have HR := Lib.hid (show (r4Val x).val = zeroNm.val by rw [HVL.out]; rfl)
        have HE := Lib.hid (show r4Ok x = false by rw [HOL.out]; rfl)
        clear HRK HVL HOL CW CS HISZ HKD
        go_region_with (first | (go_at_call 32; (refine (CK.out _).mono ?_); rintro e w4 ⟨rfl, hb4⟩; have HB4 := Lib.hid (below_next HBd.out HBd.out.size hb4); clear hb4) | fail)
        all_goals
          have HB5 := Lib.hid (below_next HB3.out HB3.out.size HB4.out)
          have HZ5 := Lib.hid (HZ3.out.next HB4.out)
          clear KC HBd HB4 CK HB3 HZ3 HX3 HK3 HI3
          obtain ⟨c0, c1, c2, c3, c4⟩ := cells5 HZ5.out
          obtain ⟨f0, f1, f2, f3, f4⟩ := froz5 HZ5.out
          go_wp2_with fail
          have HK9 := Lib.hid (set5_blk HZ5.out (.bool false) (.int .u64 0) (.int .u64 0) (.string ⟨#[]⟩) (.string ⟨#[]⟩))
          have HB9 := Lib.hid (set5_below HB5.out (Nat.le_succ _) (.bool false) (.int .u64 0) (.int .u64 0) (.string ⟨#[]⟩) (.string ⟨#[]⟩))
          clear c0 c1 c2 c3 c4 f0 f1 f2 f3 f4
          generalize hW9 : set5 w4 (w.heap.size + 1) (.bool false) (.int .u64 0) (.int .u64 0) (.string ⟨#[]⟩) (.string ⟨#[]⟩) = W9 at HK9 HB9
          unfold set5 at hW9
          rw [hW9]
          obtain ⟨c0, c1, c2, c3, c4⟩ := cells5 HK9.out
          refine bodyPost_ret (v := .tuple #[(r4Val x).val, .bool (r4Ok x)]) (by rw [HR.out, HE.out]; simp [results, Tryd.results53, go_sem, *]) rfl ⟨rfl, HB9.out⟩
      · have e1 : K = kdc := HRK.out
        have hKn : decide (K < 0) = false := decide_eq_false (by rcases HKD.out with h | h | h <;> omega)
        have CW2 := Lib.hid (CW.out (by first | rfl | trivial))
        clear HRK HKD HISZ CW e1
        go_region_held3 (fun w' => (w'.cell? ⟨w.heap.size + 1 + 1, 0, none⟩ = some (.bool i) ∧ w'.cell? ⟨w.heap.size + 1 + 1, 1, none⟩ = some (.int .u64 n) ∧ w'.cell? ⟨w.heap.size + 1 + 1, 2, none⟩ = some (.int .u64 s5) ∧ w'.cell? ⟨w.heap.size + 1 + 1, 3, none⟩ = some (.string hh) ∧ w'.cell? ⟨w.heap.size + 1 + 1, 4, none⟩ = some (.string d)) ∧ (w'.cell? ⟨w.heap.size, 0, none⟩ = some (.int .i64 x.kind) ∧ w'.cell? ⟨w.heap.size, 1, none⟩ = some (.int .u64 x.num) ∧ w'.cell? ⟨w.heap.size, 2, none⟩ = some (.slice A x.bs.length c) ∧ w'.cell? ⟨w.heap.size, 3, none⟩ = some (.slice (some ⟨b, o, none⟩) 2 c')))
          (first | with_reducible exact KC.out _ HBd.out | with_reducible exact KC.out _ HB4.out | with_reducible exact KC.out _ HB5.out | with_reducible exact KC.out _ HB6.out | fail)
          (first | (go_at_call 26; (with_reducible refine (CS.out _ _ w5 HI5.out HJ5.out).mono ?_); rintro e w6 ⟨rfl, hb6⟩; have HB6 := Lib.hid (below_next HB5.out HB5.out.size hb6); clear hb6) | (go_at_call 60; (with_reducible refine (CW2.out w4).mono ?_); rintro e w5 ⟨v5, rfl, HI5, hb5⟩; obtain ⟨k5, n5, A5, l5, c5, A6, l6, c6, rfl⟩ : ∃ k n A l c A' l' c', v5 = .agg #[.int .i64 k, .int .u64 n, .slice A l c, .slice A' l' c'] := (by obtain ⟨_, _, _, _, e, _⟩ := HI5.out.open_; exact ⟨_, _, _, _, _, _, _, _, e⟩); have HB5 := Lib.hid (below_next HB4.out HB4.out.size hb5); have HJ5 := Lib.hid ((HI3.out.below HB5.out).more (Nat.le_refl _) HB5.out.size); clear hb5) | (go_at_call 32; (with_reducible refine (CK.out _).mono ?_); rintro e w4 ⟨rfl, hb4⟩; have HB4 := Lib.hid (below_next HBd.out HBd.out.size hb4); clear hb4) | fail)
        have HB7 := Lib.hid (below_next HB3.out HB3.out.size HB6.out)
        have HZ7 := Lib.hid (HZ3.out.next HB6.out)
        have HX7 := Lib.hid (HX3.out.next HB6.out)
        clear KC HBd HB4 HB5 HB6 CK CW2 CS HB3 HZ3 HX3 HK3 HI3 HI5 HJ5 hKn
        obtain ⟨c0, c1, c2, c3, c4⟩ := cells5 HZ7.out
        obtain ⟨f0, f1, f2, f3, f4⟩ := froz5 HZ7.out
        cases sm
        · have HR := Lib.hid (show (r4Val x).val = zeroNm.val by rw [HVL.out]; rfl)
          have HE := Lib.hid (show r4Ok x = false by rw [HOL.out]; rfl)
          go_wp2_with fail
          have HK9 := Lib.hid (set5_blk HZ7.out (.bool false) (.int .u64 0) (.int .u64 0) (.string ⟨#[]⟩) (.string ⟨#[]⟩))
          have HB9 := Lib.hid (set5_below HB7.out (Nat.le_succ _) (.bool false) (.int .u64 0) (.int .u64 0) (.string ⟨#[]⟩) (.string ⟨#[]⟩))
          clear c0 c1 c2 c3 c4 f0 f1 f2 f3 f4
          generalize hW9 : set5 w6 (w.heap.size + 1) (.bool false) (.int .u64 0) (.int .u64 0) (.string ⟨#[]⟩) (.string ⟨#[]⟩) = W9 at HK9 HB9
          unfold set5 at hW9
          rw [hW9]
          obtain ⟨c0, c1, c2, c3, c4⟩ := cells5 HK9.out
          refine bodyPost_ret (v := .tuple #[(r4Val x).val, .bool (r4Ok x)]) (by rw [HR.out, HE.out]; simp [results, Tryd.results53, go_sem, *]) rfl ⟨rfl, HB9.out⟩
        · have HR := Lib.hid (show (r4Val x).val = Nm.val ⟨i, n, s5, hh, d⟩ by rw [HVL.out]; rfl)
          have HE := Lib.hid (show r4Ok x = true by rw [HOL.out]; rfl)
          obtain ⟨x0, x1, x2, x3, x4⟩ := cells5 HX7.out
          go_wp2_with fail
          have HK9 := Lib.hid (set5_blk HZ7.out (.bool i) (.int .u64 n) (.int .u64 s5) (.string hh) (.string d))
          have HB9 := Lib.hid (set5_below HB7.out (Nat.le_succ _) (.bool i) (.int .u64 n) (.int .u64 s5) (.string hh) (.string d))
          clear c0 c1 c2 c3 c4 f0 f1 f2 f3 f4 x0 x1 x2 x3 x4
          generalize hW9 : set5 w6 (w.heap.size + 1) (.bool i) (.int .u64 n) (.int .u64 s5) (.string hh) (.string d) = W9 at HK9 HB9
          unfold set5 at hW9
          rw [hW9]
          obtain ⟨c0, c1, c2, c3, c4⟩ := cells5 HK9.out
          refine bodyPost_ret (v := .tuple #[(r4Val x).val, .bool (r4Ok x)]) (by rw [HR.out, HE.out]; simp [results, Tryd.results53, go_sem, *]) rfl ⟨rfl, HB9.out⟩
    · by_cases hz3 : z.kind = 3
      · have t1 : (z.kind == 4) = false := by simp only [beq_eq_false_iff_ne, ne_eq]; omega
        have t3 : (z.kind == 3) = true := by simpa using hz3
        have hsz : (dtnStr z.bs).size ≤ 5004 := by
          unfold dtnStr
          rw [ByteArray.size_append, Lib.size_eq (strOfNums z.bs), strOfNums_data, List.length_map]
          show 4 + z.bs.length ≤ 5004
          omega
        have hq : ¬ 9223372036854775807 < 4 + (strOfNums z.bs).size := by
          rw [Lib.size_eq, strOfNums_data, List.length_map]
          omega
        have hP : (⟨#[100, 116, 110, 58]⟩ : ByteArray) ++ strOfNums z.bs = dtnStr z.bs := rfl
        have CPa := Lib.hid (fun w' => parse04_any (dtnStr z.bs) (by omega) w')
        have HPO : Hid ((rpVal (dtnStr z.bs)).ok) := Lib.hid (by rw [(rp_is _ (by omega)).1]; exact parse_ok _ (by omega))
        have HZC : Hid (zcand z = if rpOk (dtnStr z.bs) then some (rpVal (dtnStr z.bs)) else none) := Lib.hid (by
          unfold zcand
          rw [if_neg hz4, if_pos hz3])
        have hc := run_string (P := Tryd.prog) HZS2.out 27 5 9 Tryd.underlying27 Tryd.underlying5 Tryd.underlying9 e3
        generalize rpOk (dtnStr z.bs) = po at *
        generalize rpVal (dtnStr z.bs) = cand at *
        generalize dtnStr z.bs = D at *
        obtain ⟨v0, v1, v2, v3⟩ := cell4 HV2.out
        clear HZI2 HZN hz4 hz3 hbz hsz
        go_wp2_with fail
        refine (CPa.out W2).mono ?_
        rintro e w4 ⟨rfl, hb4⟩
        clear v0 v1 v2 v3 hc hP hq CPa HV2 HZS2
        have HB4 := Lib.hid (below_next HB2.out HB2.out.size hb4)
        have HK4 := Lib.hid (HK2.out.next hb4)
        have HZ4 := Lib.hid (HZ2.out.next hb4)
        have HX4 := Lib.hid (HX2.out.next hb4)
        have HI4 := Lib.hid (HI2.out.below (hb4.mono HB2.out.size))
        have HPB := Lib.hid (Blk.new w4 34 cand.cells)
        have HB5 := Lib.hid (HB4.out.alloc HB4.out.size (.cells cand.cells 34))
        have HK5 := Lib.hid (HK4.out.alloc (.cells cand.cells 34))
        have HZ5 := Lib.hid (HZ4.out.alloc (.cells cand.cells 34))
        have HX5 := Lib.hid (HX4.out.alloc (.cells cand.cells 34))
        have HI5 := Lib.hid (HI4.out.alloc HB4.out.size (.cells cand.cells 34))
        clear hb4 HB2 HK2 HZ2 HX2 HI2 HB4 HK4 HZ4 HX4 HI4
        cases po
        · have HRC2 := Lib.hid (r4_none (x := x) (by rw [HRC.out, HZC.out]; rfl))
          have HR := Lib.hid (show (r4Val x).val = zeroNm.val by rw [HRC2.out.1])
          have HE := Lib.hid HRC2.out.2
          clear HRC HZC HPO
          obtain ⟨i, n, s5, hh, d⟩ := cand
          obtain ⟨c0, c1, c2, c3, c4⟩ := cells5 HZ5.out
          obtain ⟨f0, f1, f2, f3, f4⟩ := froz5 HZ5.out
          go_upto_region 9 with (fail)
          generalize w4.alloc (.cells #[.bool i, .int .u64 n, .int .u64 s5, .string hh, .string d] 34) = W5 at *
          go_wp2_with fail
          have HK9 := Lib.hid (set5_blk HZ5.out (.bool false) (.int .u64 0) (.int .u64 0) (.string ⟨#[]⟩) (.string ⟨#[]⟩))
          have HB9 := Lib.hid (set5_below HB5.out (Nat.le_succ _) (.bool false) (.int .u64 0) (.int .u64 0) (.string ⟨#[]⟩) (.string ⟨#[]⟩))
          clear c0 c1 c2 c3 c4 f0 f1 f2 f3 f4
          generalize hW9 : set5 W5 (w.heap.size + 1) (.bool false) (.int .u64 0) (.int .u64 0) (.string ⟨#[]⟩) (.string ⟨#[]⟩) = W9 at HK9 HB9
          unfold set5 at hW9
          rw [hW9]
          obtain ⟨c0, c1, c2, c3, c4⟩ := cells5 HK9.out
          refine bodyPost_ret (v := .tuple #[(r4Val x).val, .bool (r4Ok x)]) (by rw [HR.out, HE.out]; simp [results, Tryd.results53, go_sem, *]) rfl ⟨rfl, HB9.out⟩
        · have HRC2 : Hid (rcand x = some cand) := Lib.hid (by rw [HRC.out, HZC.out]; rfl)
          have HOK := HPO
          have HVL := Lib.hid (r4_some HRC2.out).1
          have HOL := Lib.hid (r4_some HRC2.out).2
          clear HRC HRC2 HZC HPO
          obtain ⟨i, n, s5, hh, d⟩ := cand
          go_upto_region 9 with (fail)
          generalize w4.alloc (.cells #[.bool i, .int .u64 n, .int .u64 s5, .string hh, .string d] 34) = W5 at *
          obtain ⟨p0, p1, p2, p3, p4⟩ := cells5 HPB.out
          obtain ⟨x0, x1, x2, x3, x4⟩ := cells5 HX5.out
          obtain ⟨f0, f1, f2, f3, f4⟩ := froz5 HX5.out
          have HX3 := Lib.hid (set5_blk HX5.out (.bool i) (.int .u64 n) (.int .u64 s5) (.string hh) (.string d))
          have HB3 := Lib.hid (set5_below HB5.out (by omega : w.heap.size ≤ w.heap.size + 1 + 1) (.bool i) (.int .u64 n) (.int .u64 s5) (.string hh) (.string d))
          have HZ3 := Lib.hid (set5_far HZ5.out (by omega : w.heap.size + 1 ≠ w.heap.size + 1 + 1) (.bool i) (.int .u64 n) (.int .u64 s5) (.string hh) (.string d))
          have HK3 := Lib.hid (set5_far HK5.out (by omega : w.heap.size ≠ w.heap.size + 1 + 1) (.bool i) (.int .u64 n) (.int .u64 s5) (.string hh) (.string d))
          have HI3 := Lib.hid ((set5_item HI5.out (by omega : w.heap.size ≤ w.heap.size + 1 + 1) (.bool i) (.int .u64 n) (.int .u64 s5) (.string hh) (.string d)).more (Nat.le_refl _) HB3.out.size)
          go_upto_region 12 with (fail)
          clear p0 p1 p2 p3 p4 x0 x1 x2 x3 x4 f0 f1 f2 f3 f4 HX5 HB5 HZ5 HK5 HI5 HPB
          generalize hW3 : set5 W5 (w.heap.size + 1 + 1) (.bool i) (.int .u64 n) (.int .u64 s5) (.string hh) (.string d) = W3 at HX3 HB3 HZ3 HK3 HI3
          unfold set5 at hW3
          rw [hW3]
          clear hW3
          generalize hcd : (⟨i, n, s5, hh, d⟩ : Nm) = cand at *
          have HX3' : Hid (Blk W3 (w.heap.size + 1 + 1) 34 cand.cells) := Lib.hid (by rw [← hcd]; exact HX3.out)
          clear HX3 hcd
          have HX3 := HX3'
          clear HX3'
          have CK := Lib.hid (fun w' => kind04_any cand HOK.out w')
          have CW := Lib.hid (fun hr w' => write04_any cand HOK.out hr w')
          have HISZ := Lib.hid (itemOf_size cand)
          have HRK : Hid (rk cand = if right cand then kd cand else -1) := Lib.hid rfl
          have HKD := Lib.hid (kd_cases cand)
          generalize right cand = r at *
          generalize kd cand = kdc at *
          generalize rk cand = K at *
          generalize itemOf cand = T at *
          clear HOK
          have CS := Lib.hid (fun v u w' hv hu => RefSame.refSame_any 100 T x v u w' (by have := HISZ.out.2; omega) hv hu (by have := HISZ.out.1; omega) hsx)
          generalize same T x = sm at *
          obtain ⟨i, n, s5, hh, d⟩ := cand
          have KC := Lib.hid (fun (W' : World) (h : Below W3.heap.size W3 W') => And.intro (cells5 (HX3.out.next h)) (cell4 (HK3.out.next h)))
          have HBd := Lib.hid (show Below W3.heap.size W3 W3.drew from (Below.refl _ W3).drew)
          obtain ⟨⟨x0, x1, x2, x3, x4⟩, k0, k1, k2, k3⟩ := KC.out W3 (Below.refl _ _)
          cases r
          · have e1 : K = -1 := HRK.out
            have t8 : decide (K < 0) = true := decide_eq_true (by omega)
            clear e1
            have HR := Lib.hid (show (r4Val x).val = zeroNm.val by rw [HVL.out]; rfl)
            have HE := Lib.hid (show r4Ok x = false by rw [HOL.out]; rfl)
            clear HRK HVL HOL CW CS HISZ HKD
            go_region_with (first | (go_at_call 32; (refine (CK.out _).mono ?_); rintro e w4 ⟨rfl, hb4⟩; have HB4 := Lib.hid (below_next HBd.out HBd.out.size hb4); clear hb4) | fail)
            all_goals
              have HB5 := Lib.hid (below_next HB3.out HB3.out.size HB4.out)
              have HZ5 := Lib.hid (HZ3.out.next HB4.out)
              clear KC HBd HB4 CK HB3 HZ3 HX3 HK3 HI3
              obtain ⟨c0, c1, c2, c3, c4⟩ := cells5 HZ5.out
              obtain ⟨f0, f1, f2, f3, f4⟩ := froz5 HZ5.out
              go_wp2_with fail
              have HK9 := Lib.hid (set5_blk HZ5.out (.bool false) (.int .u64 0) (.int .u64 0) (.string ⟨#[]⟩) (.string ⟨#[]⟩))
              have HB9 := Lib.hid (set5_below HB5.out (Nat.le_succ _) (.bool false) (.int .u64 0) (.int .u64 0) (.string ⟨#[]⟩) (.string ⟨#[]⟩))
              clear c0 c1 c2 c3 c4 f0 f1 f2 f3 f4
              generalize hW9 : set5 w4 (w.heap.size + 1) (.bool false) (.int .u64 0) (.int .u64 0) (.string ⟨#[]⟩) (.string ⟨#[]⟩) = W9 at HK9 HB9
              unfold set5 at hW9
              rw [hW9]
              obtain ⟨c0, c1, c2, c3, c4⟩ := cells5 HK9.out
              refine bodyPost_ret (v := .tuple #[(r4Val x).val, .bool (r4Ok x)]) (by rw [HR.out, HE.out]; simp [results, Tryd.results53, go_sem, *]) rfl ⟨rfl, HB9.out⟩
          · have e1 : K = kdc := HRK.out
            have hKn : decide (K < 0) = false := decide_eq_false (by rcases HKD.out with h | h | h <;> omega)
            have CW2 := Lib.hid (CW.out (by first | rfl | trivial))
            clear HRK HKD HISZ CW e1
            go_region_held3 (fun w' => (w'.cell? ⟨w.heap.size + 1 + 1, 0, none⟩ = some (.bool i) ∧ w'.cell? ⟨w.heap.size + 1 + 1, 1, none⟩ = some (.int .u64 n) ∧ w'.cell? ⟨w.heap.size + 1 + 1, 2, none⟩ = some (.int .u64 s5) ∧ w'.cell? ⟨w.heap.size + 1 + 1, 3, none⟩ = some (.string hh) ∧ w'.cell? ⟨w.heap.size + 1 + 1, 4, none⟩ = some (.string d)) ∧ (w'.cell? ⟨w.heap.size, 0, none⟩ = some (.int .i64 x.kind) ∧ w'.cell? ⟨w.heap.size, 1, none⟩ = some (.int .u64 x.num) ∧ w'.cell? ⟨w.heap.size, 2, none⟩ = some (.slice A x.bs.length c) ∧ w'.cell? ⟨w.heap.size, 3, none⟩ = some (.slice (some ⟨b, o, none⟩) 2 c')))
              (first | with_reducible exact KC.out _ HBd.out | with_reducible exact KC.out _ HB4.out | with_reducible exact KC.out _ HB5.out | with_reducible exact KC.out _ HB6.out | fail)
              (first | (go_at_call 26; (with_reducible refine (CS.out _ _ w5 HI5.out HJ5.out).mono ?_); rintro e w6 ⟨rfl, hb6⟩; have HB6 := Lib.hid (below_next HB5.out HB5.out.size hb6); clear hb6) | (go_at_call 60; (with_reducible refine (CW2.out w4).mono ?_); rintro e w5 ⟨v5, rfl, HI5, hb5⟩; obtain ⟨k5, n5, A5, l5, c5, A6, l6, c6, rfl⟩ : ∃ k n A l c A' l' c', v5 = .agg #[.int .i64 k, .int .u64 n, .slice A l c, .slice A' l' c'] := (by obtain ⟨_, _, _, _, e, _⟩ := HI5.out.open_; exact ⟨_, _, _, _, _, _, _, _, e⟩); have HB5 := Lib.hid (below_next HB4.out HB4.out.size hb5); have HJ5 := Lib.hid ((HI3.out.below HB5.out).more (Nat.le_refl _) HB5.out.size); clear hb5) | (go_at_call 32; (with_reducible refine (CK.out _).mono ?_); rintro e w4 ⟨rfl, hb4⟩; have HB4 := Lib.hid (below_next HBd.out HBd.out.size hb4); clear hb4) | fail)
            have HB7 := Lib.hid (below_next HB3.out HB3.out.size HB6.out)
            have HZ7 := Lib.hid (HZ3.out.next HB6.out)
            have HX7 := Lib.hid (HX3.out.next HB6.out)
            clear KC HBd HB4 HB5 HB6 CK CW2 CS HB3 HZ3 HX3 HK3 HI3 HI5 HJ5 hKn
            obtain ⟨c0, c1, c2, c3, c4⟩ := cells5 HZ7.out
            obtain ⟨f0, f1, f2, f3, f4⟩ := froz5 HZ7.out
            cases sm
            · have HR := Lib.hid (show (r4Val x).val = zeroNm.val by rw [HVL.out]; rfl)
              have HE := Lib.hid (show r4Ok x = false by rw [HOL.out]; rfl)
              go_wp2_with fail
              have HK9 := Lib.hid (set5_blk HZ7.out (.bool false) (.int .u64 0) (.int .u64 0) (.string ⟨#[]⟩) (.string ⟨#[]⟩))
              have HB9 := Lib.hid (set5_below HB7.out (Nat.le_succ _) (.bool false) (.int .u64 0) (.int .u64 0) (.string ⟨#[]⟩) (.string ⟨#[]⟩))
              clear c0 c1 c2 c3 c4 f0 f1 f2 f3 f4
              generalize hW9 : set5 w6 (w.heap.size + 1) (.bool false) (.int .u64 0) (.int .u64 0) (.string ⟨#[]⟩) (.string ⟨#[]⟩) = W9 at HK9 HB9
              unfold set5 at hW9
              rw [hW9]
              obtain ⟨c0, c1, c2, c3, c4⟩ := cells5 HK9.out
              refine bodyPost_ret (v := .tuple #[(r4Val x).val, .bool (r4Ok x)]) (by rw [HR.out, HE.out]; simp [results, Tryd.results53, go_sem, *]) rfl ⟨rfl, HB9.out⟩
            · have HR := Lib.hid (show (r4Val x).val = Nm.val ⟨i, n, s5, hh, d⟩ by rw [HVL.out]; rfl)
              have HE := Lib.hid (show r4Ok x = true by rw [HOL.out]; rfl)
              obtain ⟨x0, x1, x2, x3, x4⟩ := cells5 HX7.out
              go_wp2_with fail
              have HK9 := Lib.hid (set5_blk HZ7.out (.bool i) (.int .u64 n) (.int .u64 s5) (.string hh) (.string d))
              have HB9 := Lib.hid (set5_below HB7.out (Nat.le_succ _) (.bool i) (.int .u64 n) (.int .u64 s5) (.string hh) (.string d))
              clear c0 c1 c2 c3 c4 f0 f1 f2 f3 f4 x0 x1 x2 x3 x4
              generalize hW9 : set5 w6 (w.heap.size + 1) (.bool i) (.int .u64 n) (.int .u64 s5) (.string hh) (.string d) = W9 at HK9 HB9
              unfold set5 at hW9
              rw [hW9]
              obtain ⟨c0, c1, c2, c3, c4⟩ := cells5 HK9.out
              refine bodyPost_ret (v := .tuple #[(r4Val x).val, .bool (r4Ok x)]) (by rw [HR.out, HE.out]; simp [results, Tryd.results53, go_sem, *]) rfl ⟨rfl, HB9.out⟩
      · obtain ⟨cand, hcand⟩ : ∃ c, c = zeroNm := ⟨_, rfl⟩
        have HRC2 : Hid (rcand x = some cand) := Lib.hid (by
          rw [HRC.out, hcand]
          unfold zcand
          rw [if_neg hz4, if_neg hz3])
        have HOK : Hid cand.ok := Lib.hid (by rw [hcand]; exact zero_ok)
        have HVL := Lib.hid (r4_some HRC2.out).1
        have HOL := Lib.hid (r4_some HRC2.out).2
        have HX3 : Hid (Blk W2 (w.heap.size + 1 + 1) 34 cand.cells) := Lib.hid (by rw [hcand]; exact HX2.out)
        have D : (z.kind == 4) = false ∨ ((z.kind == 4) = true ∧ ((z.sub.length : Int) == 2) = false) := by
          by_cases hk : z.kind = 4
          · exact .inr ⟨by simpa using hk, by simp only [beq_eq_false_iff_ne, ne_eq]; omega⟩
          · exact .inl (by simpa using hk)
        have t3 : (z.kind == 3) = false := by simpa using hz3
        clear HZI2 HZN HRC HRC2 HZS2 hz4 hz3 hbz hcand HX2
        obtain ⟨v0, v1, v2, v3⟩ := cell4 HV2.out
        have HB3 := HB2
        have HZ3 := HZ2
        have HK3 := HK2
        have HI3 := Lib.hid (HI2.out.more (Nat.le_refl _) HB2.out.size)
        rcases D with t1 | ⟨t1, t2⟩
        all_goals
          go_upto_region 12 with (fail)
          clear v0 v1 v2 v3 HV2 HI2 HB2 HZ2 HK2
          generalize W2 = W3 at *
          have CK := Lib.hid (fun w' => kind04_any cand HOK.out w')
          have CW := Lib.hid (fun hr w' => write04_any cand HOK.out hr w')
          have HISZ := Lib.hid (itemOf_size cand)
          have HRK : Hid (rk cand = if right cand then kd cand else -1) := Lib.hid rfl
          have HKD := Lib.hid (kd_cases cand)
          generalize right cand = r at *
          generalize kd cand = kdc at *
          generalize rk cand = K at *
          generalize itemOf cand = T at *
          clear HOK
          have CS := Lib.hid (fun v u w' hv hu => RefSame.refSame_any 100 T x v u w' (by have := HISZ.out.2; omega) hv hu (by have := HISZ.out.1; omega) hsx)
          generalize same T x = sm at *
          obtain ⟨i, n, s5, hh, d⟩ := cand
          have KC := Lib.hid (fun (W' : World) (h : Below W3.heap.size W3 W') => And.intro (cells5 (HX3.out.next h)) (cell4 (HK3.out.next h)))
          have HBd := Lib.hid (show Below W3.heap.size W3 W3.drew from (Below.refl _ W3).drew)
          obtain ⟨⟨x0, x1, x2, x3, x4⟩, k0, k1, k2, k3⟩ := KC.out W3 (Below.refl _ _)
          cases r
          · have e1 : K = -1 := HRK.out
            have t8 : decide (K < 0) = true := decide_eq_true (by omega)
            clear e1
            have HR := Lib.hid (show (r4Val x).val = zeroNm.val by rw [HVL.out]; rfl)
            have HE := Lib.hid (show r4Ok x = false by rw [HOL.out]; rfl)
            clear HRK HVL HOL CW CS HISZ HKD
            go_region_with (first | (go_at_call 32; (refine (CK.out _).mono ?_); rintro e w4 ⟨rfl, hb4⟩; have HB4 := Lib.hid (below_next HBd.out HBd.out.size hb4); clear hb4) | fail)
            all_goals
              have HB5 := Lib.hid (below_next HB3.out HB3.out.size HB4.out)
              have HZ5 := Lib.hid (HZ3.out.next HB4.out)
              clear KC HBd HB4 CK HB3 HZ3 HX3 HK3 HI3
              obtain ⟨c0, c1, c2, c3, c4⟩ := cells5 HZ5.out
              obtain ⟨f0, f1, f2, f3, f4⟩ := froz5 HZ5.out
              go_wp2_with fail
              have HK9 := Lib.hid (set5_blk HZ5.out (.bool false) (.int .u64 0) (.int .u64 0) (.string ⟨#[]⟩) (.string ⟨#[]⟩))
              have HB9 := Lib.hid (set5_below HB5.out (Nat.le_succ _) (.bool false) (.int .u64 0) (.int .u64 0) (.string ⟨#[]⟩) (.string ⟨#[]⟩))
              clear c0 c1 c2 c3 c4 f0 f1 f2 f3 f4
              generalize hW9 : set5 w4 (w.heap.size + 1) (.bool false) (.int .u64 0) (.int .u64 0) (.string ⟨#[]⟩) (.string ⟨#[]⟩) = W9 at HK9 HB9
              unfold set5 at hW9
              rw [hW9]
              obtain ⟨c0, c1, c2, c3, c4⟩ := cells5 HK9.out
              refine bodyPost_ret (v := .tuple #[(r4Val x).val, .bool (r4Ok x)]) (by rw [HR.out, HE.out]; simp [results, Tryd.results53, go_sem, *]) rfl ⟨rfl, HB9.out⟩
          · have e1 : K = kdc := HRK.out
            have hKn : decide (K < 0) = false := decide_eq_false (by rcases HKD.out with h | h | h <;> omega)
            have CW2 := Lib.hid (CW.out (by first | rfl | trivial))
            clear HRK HKD HISZ CW e1
            go_region_held3 (fun w' => (w'.cell? ⟨w.heap.size + 1 + 1, 0, none⟩ = some (.bool i) ∧ w'.cell? ⟨w.heap.size + 1 + 1, 1, none⟩ = some (.int .u64 n) ∧ w'.cell? ⟨w.heap.size + 1 + 1, 2, none⟩ = some (.int .u64 s5) ∧ w'.cell? ⟨w.heap.size + 1 + 1, 3, none⟩ = some (.string hh) ∧ w'.cell? ⟨w.heap.size + 1 + 1, 4, none⟩ = some (.string d)) ∧ (w'.cell? ⟨w.heap.size, 0, none⟩ = some (.int .i64 x.kind) ∧ w'.cell? ⟨w.heap.size, 1, none⟩ = some (.int .u64 x.num) ∧ w'.cell? ⟨w.heap.size, 2, none⟩ = some (.slice A x.bs.length c) ∧ w'.cell? ⟨w.heap.size, 3, none⟩ = some (.slice (some ⟨b, o, none⟩) 2 c')))
              (first | with_reducible exact KC.out _ HBd.out | with_reducible exact KC.out _ HB4.out | with_reducible exact KC.out _ HB5.out | with_reducible exact KC.out _ HB6.out | fail)
              (first | (go_at_call 26; (with_reducible refine (CS.out _ _ w5 HI5.out HJ5.out).mono ?_); rintro e w6 ⟨rfl, hb6⟩; have HB6 := Lib.hid (below_next HB5.out HB5.out.size hb6); clear hb6) | (go_at_call 60; (with_reducible refine (CW2.out w4).mono ?_); rintro e w5 ⟨v5, rfl, HI5, hb5⟩; obtain ⟨k5, n5, A5, l5, c5, A6, l6, c6, rfl⟩ : ∃ k n A l c A' l' c', v5 = .agg #[.int .i64 k, .int .u64 n, .slice A l c, .slice A' l' c'] := (by obtain ⟨_, _, _, _, e, _⟩ := HI5.out.open_; exact ⟨_, _, _, _, _, _, _, _, e⟩); have HB5 := Lib.hid (below_next HB4.out HB4.out.size hb5); have HJ5 := Lib.hid ((HI3.out.below HB5.out).more (Nat.le_refl _) HB5.out.size); clear hb5) | (go_at_call 32; (with_reducible refine (CK.out _).mono ?_); rintro e w4 ⟨rfl, hb4⟩; have HB4 := Lib.hid (below_next HBd.out HBd.out.size hb4); clear hb4) | fail)
            have HB7 := Lib.hid (below_next HB3.out HB3.out.size HB6.out)
            have HZ7 := Lib.hid (HZ3.out.next HB6.out)
            have HX7 := Lib.hid (HX3.out.next HB6.out)
            clear KC HBd HB4 HB5 HB6 CK CW2 CS HB3 HZ3 HX3 HK3 HI3 HI5 HJ5 hKn
            obtain ⟨c0, c1, c2, c3, c4⟩ := cells5 HZ7.out
            obtain ⟨f0, f1, f2, f3, f4⟩ := froz5 HZ7.out
            cases sm
            · have HR := Lib.hid (show (r4Val x).val = zeroNm.val by rw [HVL.out]; rfl)
              have HE := Lib.hid (show r4Ok x = false by rw [HOL.out]; rfl)
              go_wp2_with fail
              have HK9 := Lib.hid (set5_blk HZ7.out (.bool false) (.int .u64 0) (.int .u64 0) (.string ⟨#[]⟩) (.string ⟨#[]⟩))
              have HB9 := Lib.hid (set5_below HB7.out (Nat.le_succ _) (.bool false) (.int .u64 0) (.int .u64 0) (.string ⟨#[]⟩) (.string ⟨#[]⟩))
              clear c0 c1 c2 c3 c4 f0 f1 f2 f3 f4
              generalize hW9 : set5 w6 (w.heap.size + 1) (.bool false) (.int .u64 0) (.int .u64 0) (.string ⟨#[]⟩) (.string ⟨#[]⟩) = W9 at HK9 HB9
              unfold set5 at hW9
              rw [hW9]
              obtain ⟨c0, c1, c2, c3, c4⟩ := cells5 HK9.out
              refine bodyPost_ret (v := .tuple #[(r4Val x).val, .bool (r4Ok x)]) (by rw [HR.out, HE.out]; simp [results, Tryd.results53, go_sem, *]) rfl ⟨rfl, HB9.out⟩
            · have HR := Lib.hid (show (r4Val x).val = Nm.val ⟨i, n, s5, hh, d⟩ by rw [HVL.out]; rfl)
              have HE := Lib.hid (show r4Ok x = true by rw [HOL.out]; rfl)
              obtain ⟨x0, x1, x2, x3, x4⟩ := cells5 HX7.out
              go_wp2_with fail
              have HK9 := Lib.hid (set5_blk HZ7.out (.bool i) (.int .u64 n) (.int .u64 s5) (.string hh) (.string d))
              have HB9 := Lib.hid (set5_below HB7.out (Nat.le_succ _) (.bool i) (.int .u64 n) (.int .u64 s5) (.string hh) (.string d))
              clear c0 c1 c2 c3 c4 f0 f1 f2 f3 f4 x0 x1 x2 x3 x4
              generalize hW9 : set5 w6 (w.heap.size + 1) (.bool i) (.int .u64 n) (.int .u64 s5) (.string hh) (.string d) = W9 at HK9 HB9
              unfold set5 at hW9
              rw [hW9]
              obtain ⟨c0, c1, c2, c3, c4⟩ := cells5 HK9.out
              refine bodyPost_ret (v := .tuple #[(r4Val x).val, .bool (r4Ok x)]) (by rw [HR.out, HE.out]; simp [results, Tryd.results53, go_sem, *]) rfl ⟨rfl, HB9.out⟩
end Go.Proofs.YtbgcbcnidjlhnaaDoor.Eid
