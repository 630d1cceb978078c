/- The contract of the reference's Read (layer 5). -/
import Derived.Test.YtbgcbcnidjlhnaaDoorIdRr
import Derived.Test.YtbgcbcnidjlhnaaDoorIdRd
import Derived.Test.YtbgcbcnidjlhnaaDoorRefRd
import Derived.Test.YtbgcbcnidjlhnaaDoorRefSame
import Derived.Deep.RegionHeld3
import Derived.Deep.CutBlock
namespace Go.Proofs.YtbgcbcnidjlhnaaDoor.Eid
open Go.RowKit Wd Cb

/-- No part of an item is long. -/
def subsSmall (z : Itm) : Prop := ∀ j (h : j < z.sub.length), (z.sub[j]).bs.length ≤ 5000
theorem irOk_kind (z : Itm) (h : irOk z = true) : z.kind = 4 := by
  have e := (ir_back z h).2
  exact (congrArg Itm.kind e).symm
theorem irOk_rd (z : Itm) (h : irOk z = true) : rdOk (z.sub.getD 0 (iN 0)) = true := by
  have e := ir_back z h
  have hr : right (irI z).src = true := by have := e.1; unfold iright at this; simp at this; exact this.1
  have h1 : z.sub.getD 0 (iN 0) = itemOf (irI z).src := (congrArg (fun y => (Itm.sub y).getD 0 (iN 0)) e.2).symm
  rw [h1]
  exact (item_name _ hr).1

set_option maxRecDepth 100000 in
set_option maxHeartbeats 8000000 in
theorem read05_any (x : Itm) (v : Value) (w : World) (hv : ItemV w 0 w.heap.size x v) (hsx : size x ≤ 100000) (h4' : ∀ k (h : k < x.sub.length), r4Val (x.sub[k]) = rdI (x.sub[k]) ∧ r4Ok (x.sub[k]) = rdOk (x.sub[k])) (hbs : ∀ k (h : k < x.sub.length), subsSmall (x.sub[k])) :
    Calls Tryd.prog 19 #[v] w fun e w' => e = .returned (.tuple #[(irI x).val, .bool (irOk x)]) ∧ Below w.heap.size w w' := by
  obtain ⟨A, c, A', c', rfl, hk, hn, hb, h1, h2, h3, h4, h5, h6⟩ := hv.open_
  have HIG := Lib.hid (fun e1 e2 => ig_ok hv e1 e2)
  have HB := Lib.hid (((Below.refl w.heap.size w).alloc (Nat.le_refl _) (.cells #[.int .i64 x.kind, .int .u64 x.num, .slice A x.bs.length c, .slice A' x.sub.length c'] 49)).alloc (by simp) (.cells zero7 36))
  have HK := Lib.hid ((Blk.new w 49 #[.int .i64 x.kind, .int .u64 x.num, .slice A x.bs.length c, .slice A' x.sub.length c']).alloc (.cells zero7 36))
  have HZ := Lib.hid (Blk.new (w.alloc (.cells #[.int .i64 x.kind, .int .u64 x.num, .slice A x.bs.length c, .slice A' x.sub.length c'] 49)) 36 zero7)
  rw [World.size_alloc] at HZ
  have HX := Lib.hid (hv.below HB.out)
  have HI := Lib.hid (h6.below HB.out)
  clear hv h3 h6 hk hn hb
  unfold maxLen at h5 h2
  have HBAD : Hid (irOk x = false → (irI x).val = zeroId.val ∧ irOk x = false) := Lib.hid (fun h => by rw [irI_eq, h]; exact ⟨rfl, rfl⟩)
  have HGOOD : Hid (irOk x = true → (irI x).val = (ig x).val ∧ irOk x = true) := Lib.hid (fun h => by rw [irI_eq, h]; exact ⟨rfl, rfl⟩)
  go_enter Tryd.func19, Tryd.ntmps19
  go_upto_region 1 with (fail)
  generalize (w.alloc (.cells #[.int .i64 x.kind, .int .u64 x.num, .slice A x.bs.length c, .slice A' x.sub.length c'] 49)).alloc (.cells #[.bool false, .int .u64 0, .int .u64 0, .string ⟨#[]⟩, .string ⟨#[]⟩, .int .u64 0, .int .u64 0] 36) = W at *
  obtain ⟨k0, k1, k2, k3⟩ := cell4 HK.out
  by_cases h0 : x.kind = 4
  rotate_left
  · have t0 : (x.kind != 4) = true := by simpa using h0
    obtain ⟨hR, hE⟩ := HBAD.out (by
      cases hh : irOk x
      · rfl
      · exact absurd (irOk_kind x hh) h0)
    have HR := Lib.hid hR
    have HE := Lib.hid hE
    clear hR hE
    obtain ⟨z0, z1, z2, z3, z4, z5, z6⟩ := cells7 HZ.out
    obtain ⟨f0, f1, f2, f3, f4, f5, f6⟩ := froz7 HZ.out
    go_wp2_with fail
    have HK9 := Lib.hid (set7_blk HZ.out (.bool false) (.int .u64 0) (.int .u64 0) (.string ⟨#[]⟩) (.string ⟨#[]⟩) (.int .u64 0) (.int .u64 0))
    have HB9 := Lib.hid (set7_below HB.out (Nat.le_succ _) (.bool false) (.int .u64 0) (.int .u64 0) (.string ⟨#[]⟩) (.string ⟨#[]⟩) (.int .u64 0) (.int .u64 0))
    clear z0 z1 z2 z3 z4 z5 z6 f0 f1 f2 f3 f4 f5 f6 k0 k1 k2 k3
    generalize hW9 : set7 W (w.heap.size + 1) (.bool false) (.int .u64 0) (.int .u64 0) (.string ⟨#[]⟩) (.string ⟨#[]⟩) (.int .u64 0) (.int .u64 0) = W9 at HK9 HB9
    unfold set7 at hW9
    rw [hW9]
    obtain ⟨z0, z1, z2, z3, z4, z5, z6⟩ := cells7 HK9.out
    refine bodyPost_ret (v := .tuple #[(irI x).val, .bool (irOk x)]) (by rw [HR.out, HE.out]; simp [results, Tryd.results19, go_sem, *]) rfl ⟨rfl, HB9.out⟩
  have t4 : (x.kind != 4) = false := by simp [h0]
  clear h0
  by_cases h : x.sub.length = 2
  rotate_left
  · have t0 : ((x.sub.length : Int) != 2) = true := by simp only [bne_iff_ne, ne_eq]; omega
    obtain ⟨hR, hE⟩ := HBAD.out (by unfold irOk; rw [decide_eq_false h]; rfl)
    have HR := Lib.hid hR
    have HE := Lib.hid hE
    clear hR hE
    obtain ⟨z0, z1, z2, z3, z4, z5, z6⟩ := cells7 HZ.out
    obtain ⟨f0, f1, f2, f3, f4, f5, f6⟩ := froz7 HZ.out
    go_wp2_with fail
    have HK9 := Lib.hid (set7_blk HZ.out (.bool false) (.int .u64 0) (.int .u64 0) (.string ⟨#[]⟩) (.string ⟨#[]⟩) (.int .u64 0) (.int .u64 0))
    have HB9 := Lib.hid (set7_below HB.out (Nat.le_succ _) (.bool false) (.int .u64 0) (.int .u64 0) (.string ⟨#[]⟩) (.string ⟨#[]⟩) (.int .u64 0) (.int .u64 0))
    clear z0 z1 z2 z3 z4 z5 z6 f0 f1 f2 f3 f4 f5 f6 k0 k1 k2 k3
    generalize hW9 : set7 W (w.heap.size + 1) (.bool false) (.int .u64 0) (.int .u64 0) (.string ⟨#[]⟩) (.string ⟨#[]⟩) (.int .u64 0) (.int .u64 0) = W9 at HK9 HB9
    unfold set7 at hW9
    rw [hW9]
    obtain ⟨z0, z1, z2, z3, z4, z5, z6⟩ := cells7 HK9.out
    refine bodyPost_ret (v := .tuple #[(irI x).val, .bool (irOk x)]) (by rw [HR.out, HE.out]; simp [results, Tryd.results19, go_sem, *]) rfl ⟨rfl, HB9.out⟩
  · obtain ⟨b, o, A3, e3, A4, e4, rfl, -, hblt, g0, g1, g2, g3, p1, p2, p3, p4, p5, p6, p7, p8, p9⟩ := HI.out.at_ (k := 1) (by omega)
    obtain ⟨b', o', B3, d3, B4, d4, ea, -, -, g0', g1', g2', g3', p1', p2', p3', p4', p5', p6', p7', p8', p9'⟩ := HI.out.at_ (k := 0) (by omega)
    simp only [Option.some.injEq, Addr.mk.injEq, and_true] at ea
    obtain ⟨rfl, rfl⟩ := ea
    have hs0 : x.sub.getD 0 (iN 0) = x.sub[0]'(by omega) := sub_at (by omega)
    have hs1 : x.sub.getD 1 (iN 0) = x.sub[1]'(by omega) := sub_at (by omega)
    have HOK : Hid (irOk x = (decide ((x.sub[1]'(by omega)).sub.length = 2) && iright (ig x) && same (iitem (ig x)) x)) := Lib.hid (by unfold irOk; rw [decide_eq_true h, hs1, Bool.true_and])
    have HGI : Hid ((ig x) = ⟨rdI (x.sub[0]'(by omega)), ((x.sub[1]'(by omega)).sub.getD 0 (iN 0)).num, ((x.sub[1]'(by omega)).sub.getD 1 (iN 0)).num⟩) := Lib.hid (by unfold ig; rw [hs0, hs1])
    have HIG' := Lib.hid (fun e2 => HIG.out h (by rw [hs1]; exact e2))
    have HR4 := Lib.hid (h4' 0 (by omega))
    have HBSZ := Lib.hid (hbs 0 (by omega))
    have HSZZ := Lib.hid (show size (x.sub[0]'(by omega)) ≤ 100000 by have h7 := size_at x.sub 0 (by omega); have h8 := size_sub x; omega)
    have HRO := Lib.hid (show irOk x = true → rdOk (x.sub[0]'(by omega)) = true from fun hh => by have := irOk_rd x hh; rwa [hs0] at this)
    clear h4' hbs
    have HY0 := Lib.hid (ItemV.of p1' p2' p3' p4' p5' p6' p7' p8' p9')
    have HP9 := Lib.hid p9
    clear HIG hs0 hs1 p1 p2 p3 p4 p5 p6 p7 p8 p9 p1' p2' p3' p4' p5' p6' p7' p8' p9' HI
    generalize x.sub[1]'(by omega) = y at *
    generalize x.sub[0]'(by omega) = z at *
    simp only [Nat.zero_mul, Nat.add_zero, Nat.one_mul] at g0 g1 g2 g3 g0' g1' g2' g3'
    generalize hL : x.sub.length = L at *
    subst h
    by_cases h' : y.sub.length = 2
    rotate_left
    · have t0 : ((y.sub.length : Int) != 2) = true := by simp only [bne_iff_ne, ne_eq]; omega
      obtain ⟨hR, hE⟩ := HBAD.out (by rw [HOK.out, decide_eq_false h']; rfl)
      have HR := Lib.hid hR
      have HE := Lib.hid hE
      clear hR hE HOK HGI HIG' HY0 HP9 HR4 HBSZ HSZZ HRO h' g0 g1 g2 g0' g1' g2' g3' HBAD HGOOD HX
      obtain ⟨z0, z1, z2, z3, z4, z5, z6⟩ := cells7 HZ.out
      obtain ⟨f0, f1, f2, f3, f4, f5, f6⟩ := froz7 HZ.out
      go_wp2_with fail
      have HK9 := Lib.hid (set7_blk HZ.out (.bool false) (.int .u64 0) (.int .u64 0) (.string ⟨#[]⟩) (.string ⟨#[]⟩) (.int .u64 0) (.int .u64 0))
      have HB9 := Lib.hid (set7_below HB.out (Nat.le_succ _) (.bool false) (.int .u64 0) (.int .u64 0) (.string ⟨#[]⟩) (.string ⟨#[]⟩) (.int .u64 0) (.int .u64 0))
      clear z0 z1 z2 z3 z4 z5 z6 f0 f1 f2 f3 f4 f5 f6 k0 k1 k2 k3 g3
      generalize hW9 : set7 W (w.heap.size + 1) (.bool false) (.int .u64 0) (.int .u64 0) (.string ⟨#[]⟩) (.string ⟨#[]⟩) (.int .u64 0) (.int .u64 0) = W9 at HK9 HB9
      unfold set7 at hW9
      rw [hW9]
      obtain ⟨z0, z1, z2, z3, z4, z5, z6⟩ := cells7 HK9.out
      refine bodyPost_ret (v := .tuple #[(irI x).val, .bool (irOk x)]) (by rw [HR.out, HE.out]; simp [results, Tryd.results19, go_sem, *]) rfl ⟨rfl, HB9.out⟩
    · have HO := Lib.hid (HIG'.out h')
      obtain ⟨yb, yo, C3, _, C4, _, hyA, -, hyb, -, q1, -⟩ := HP9.out.at_ (k := 0) (by omega)
      obtain ⟨yb', yo', D3, _, D4, _, hyA', -, -, -, q1', -⟩ := HP9.out.at_ (k := 1) (by omega)
      subst hyA
      simp only [Option.some.injEq, Addr.mk.injEq, and_true] at hyA'
      obtain ⟨rfl, rfl⟩ := hyA'
      have hs0 : y.sub.getD 0 (iN 0) = y.sub[0]'(by omega) := sub_at (by omega)
      have hs1 : y.sub.getD 1 (iN 0) = y.sub[1]'(by omega) := sub_at (by omega)
      rw [hs0, hs1] at HGI
      clear hs0 hs1 HIG'
      rw [decide_eq_true h', Bool.true_and] at HOK
      generalize (y.sub[0]'(by omega)).num = nt at *
      generalize (y.sub[1]'(by omega)).num = nq at *
      simp only [Nat.zero_mul, Nat.add_zero, Nat.one_mul] at q1 q1'
      have CRd : Hid (∀ w', ItemV w' 0 w'.heap.size z (.agg #[.int .i64 z.kind, .int .u64 z.num, .slice B3 z.bs.length d3, .slice B4 z.sub.length d4]) → Calls Tryd.prog 53 #[.agg #[.int .i64 z.kind, .int .u64 z.num, .slice B3 z.bs.length d3, .slice B4 z.sub.length d4]] w' fun e w1 => e = .returned (.tuple #[(rdI z).val, .bool (rdOk z)]) ∧ Below w'.heap.size w' w1) := Lib.hid (fun w' hvi => by
        have c := read04_any z (.agg #[.int .i64 z.kind, .int .u64 z.num, .slice B3 z.bs.length d3, .slice B4 z.sub.length d4]) w' hvi (by have := HSZZ.out; omega) HBSZ.out
        rw [HR4.out.1, HR4.out.2] at c
        exact c)
      generalize hLy : y.sub.length = Ly at *
      subst h'
      clear HP9
      go_wp2_with fail
      refine (CRd.out W (HY0.out.more (Nat.le_refl _) HB.out.size)).mono ?_
      rintro e w1 ⟨rfl, hb1⟩
      have HSZ := Lib.hid HB.out.size
      have UP : ∀ W', Below W.heap.size W W' → W'.cell? ⟨w.heap.size, 3, none⟩ = some (.slice (some ⟨b, o, none⟩) 2 c') ∧ W'.cell? ⟨b, o + 4 + 3, none⟩ = some (.slice (some ⟨yb, yo, none⟩) 2 e4) ∧ W'.cell? ⟨yb, yo + 1, none⟩ = some (.int .u64 nt) ∧ W'.cell? ⟨yb, yo + 4 + 1, none⟩ = some (.int .u64 nq) := fun W' hW =>
        ⟨(hW.cell (p := ⟨w.heap.size, 3, none⟩) HK.out.lt).trans k3, (hW.cell (p := ⟨b, o + 4 + 3, none⟩) (by have := HSZ.out; show b < _; omega)).trans g3, (hW.cell (p := ⟨yb, yo + 1, none⟩) (by have := HSZ.out; show yb < _; omega)).trans q1, (hW.cell (p := ⟨yb, yo + 4 + 1, none⟩) (by have := HSZ.out; show yb < _; omega)).trans q1'⟩
      have HUP := Lib.hid UP
      clear UP k0 k1 k2 k3 g0 g1 g2 g3 g0' g1' g2' g3' q1 q1' CRd HY0
      have HRZ := Lib.hid (show rdI z = rdI z from rfl)
      generalize rdI z = r at *
      clear HRZ
      generalize rdOk z = er at *
      clear HR4 HBSZ HSZZ
      obtain ⟨i, n, s, hh, d⟩ := r
      have HV2 := Lib.hid (Blk.new w1 34 #[.bool i, .int .u64 n, .int .u64 s, .string hh, .string d])
      have HW2 := Lib.hid (hb1.alloc hb1.size (.cells #[.bool i, .int .u64 n, .int .u64 s, .string hh, .string d] 34))
      clear hb1
      go_upto_region 4 with (fail)
      generalize w1.alloc (.cells #[.bool i, .int .u64 n, .int .u64 s, .string hh, .string d] 34) = W2 at *
      go_cut [6] from 9 (fun p6 wx => p6 = .pointer (some ⟨W2.heap.size, 0, none⟩) ∧ Hid (Blk wx W2.heap.size 36 #[.bool i, .int .u64 n, .int .u64 s, .string hh, .string d, .int .u64 nt, .int .u64 nq]) ∧ Hid (Below W.heap.size W wx))
      case first =>
        obtain ⟨k3, g3, q1, q1'⟩ := HUP.out _ HW2.out
        obtain ⟨v0, v1, v2, v3, v4⟩ := cells5 HV2.out
        have HB0 := Lib.hid (Below.refl W2.heap.size W2)
        have HBd := Lib.hid (Below.refl W2.heap.size W2).drew
        have HP := Lib.hid (fun (W' : World) (hW : Below W2.heap.size W2 W') => And.intro (HUP.out W' (below_next HW2.out HW2.out.size hW)) (cells5 (HV2.out.next hW)))
        clear HBAD HGOOD HOK HX HO HGI HK HZ HB HUP HRO
        go_region_held3 (fun w' => (w'.cell? ⟨w.heap.size, 3, none⟩ = some (.slice (some ⟨b, o, none⟩) 2 c') ∧ w'.cell? ⟨b, o + 4 + 3, none⟩ = some (.slice (some ⟨yb, yo, none⟩) 2 e4) ∧ w'.cell? ⟨yb, yo + 1, none⟩ = some (.int .u64 nt) ∧ w'.cell? ⟨yb, yo + 4 + 1, none⟩ = some (.int .u64 nq)) ∧ (w'.cell? ⟨w1.heap.size, 0, none⟩ = some (.bool i) ∧ w'.cell? ⟨w1.heap.size, 1, none⟩ = some (.int .u64 n) ∧ w'.cell? ⟨w1.heap.size, 2, none⟩ = some (.int .u64 s) ∧ w'.cell? ⟨w1.heap.size, 3, none⟩ = some (.string hh) ∧ w'.cell? ⟨w1.heap.size, 4, none⟩ = some (.string d)))
          (first | with_reducible exact HP.out _ HBd.out | with_reducible exact HP.out _ (HB0.out.alloc HB0.out.size _).drew | with_reducible exact HP.out _ (HBd.out.alloc HBd.out.size _) | with_reducible exact HP.out _ (set7_below (HB0.out.alloc HB0.out.size _).drew (Nat.le_refl _) _ _ _ _ _ _ _) | with_reducible exact HP.out _ (set7_below (HBd.out.alloc HBd.out.size _) (Nat.le_refl _) _ _ _ _ _ _ _) | fail)
          (fail)
        have HV3 := Lib.hid (Blk.new W2 36 #[.bool i, .int .u64 n, .int .u64 s, .string hh, .string d, .int .u64 nt, .int .u64 nq]).drew
        have HW3 := Lib.hid (HW2.out.alloc HW2.out.size (.cells #[.bool i, .int .u64 n, .int .u64 s, .string hh, .string d, .int .u64 nt, .int .u64 nq] 36)).drew
        clear k3 g3 q1 q1' v0 v1 v2 v3 v4 HB0 HBd HP
        generalize (W2.alloc (.cells #[.bool i, .int .u64 n, .int .u64 s, .string hh, .string d, .int .u64 nt, .int .u64 nq] 36)).drew = W3 at *
        go_wp2_with fail
        go_meet
        exact ⟨rfl, HV3, HW3⟩
      case rest =>
      obtain ⟨rfl, HV3, HW3⟩ := hcut
      clear HV2 HW2 HUP hblt hyb
      have CR := Lib.hid (fun w' => right05_any (ig x) HO.out w')
      have CW : Hid (iright (ig x) = true → ∀ w', Calls Tryd.prog 27 #[(ig x).val] w' fun e w1 => ∃ v, e = .returned v ∧ Hid (ItemV w1 0 w1.heap.size (iitem (ig x)) v) ∧ Below w'.heap.size w' w1) := Lib.hid (fun hr w' => (write05_any (ig x) HO.out hr w').mono fun _ _ ⟨v, h1, h2, h3⟩ => ⟨v, h1, Lib.hid (h2.out.more (Nat.zero_le _) (Nat.le_refl _)), h3⟩)
      have HIS := Lib.hid (fun hr => iitem_small (ig x) HO.out hr)
      rw [HGI.out] at CW CR HOK HGOOD HIS
      clear HGI HO
      generalize iitem ⟨⟨i, n, s, hh, d⟩, nt, nq⟩ = T at *
      generalize iright ⟨⟨i, n, s, hh, d⟩, nt, nq⟩ = ir at *
      go_upto_region 5 with (fail)
      have HB3 := Lib.hid (below_next HB.out HB.out.size HW3.out)
      have HZ3 := Lib.hid (HZ.out.next HW3.out)
      have HK3 := Lib.hid (HK.out.next HW3.out)
      have HX3 := Lib.hid ((HX.out.more (Nat.le_refl _) HB.out.size).below HW3.out |>.more (Nat.le_refl _) HW3.out.size)
      have KK := Lib.hid (fun (W' : World) (h : Below wc.heap.size wc W') => And.intro (cells7 (HV3.out.next h)) (cell4 (HK3.out.next h)))
      have HBd := Lib.hid (Below.refl wc.heap.size wc).drew
      clear HB HZ HK HX HW3
      cases er
      · obtain ⟨hR, hE⟩ := HBAD.out (by
          cases hi : irOk x
          · rfl
          · exact absurd (HRO.out hi) (by decide))
        have HR := Lib.hid hR
        have HE := Lib.hid hE
        clear hR hE HBAD HGOOD HOK HRO HIS CR CW
        refine wp_region_held_drew (S := (fun w' => (w'.cell? ⟨W2.heap.size, 0, none⟩ = some (.bool i) ∧ w'.cell? ⟨W2.heap.size, 1, none⟩ = some (.int .u64 n) ∧ w'.cell? ⟨W2.heap.size, 2, none⟩ = some (.int .u64 s) ∧ w'.cell? ⟨W2.heap.size, 3, none⟩ = some (.string hh) ∧ w'.cell? ⟨W2.heap.size, 4, none⟩ = some (.string d) ∧ w'.cell? ⟨W2.heap.size, 5, none⟩ = some (.int .u64 nt) ∧ w'.cell? ⟨W2.heap.size, 6, none⟩ = some (.int .u64 nq)) ∧ (w'.cell? ⟨w.heap.size, 0, none⟩ = some (.int .i64 x.kind) ∧ w'.cell? ⟨w.heap.size, 1, none⟩ = some (.int .u64 x.num) ∧ w'.cell? ⟨w.heap.size, 2, none⟩ = some (.slice A x.bs.length c) ∧ w'.cell? ⟨w.heap.size, 3, none⟩ = some (.slice (some ⟨b, o, none⟩) 2 c')))) (by kernel_rfl) (KK.out _ HBd.out) (fun hHeld => ?_)
        first
        | (refine wpAnyH_take (i := 0) (oi := ({ dst := some 52, op := Op.move (Operand.tmp 5), type := 4, pos := "ref.go:47", after := #[], guard := none })) (v := ?_) rfl (by kernel_rfl) (by kernel_rfl) (by kernel_rfl) (fun _ _ _ h => h) (Or.inl ⟨by rfl, ?_⟩) hHeld ?_
           rotate_left
           · intro w hSw
             (try dsimp only at hSw)
             go_simp
             try with_reducible rfl
           try simp only [Act.put, List.setIfInBounds_toArray, List.set_cons_zero, List.set_cons_succ])
        | fail
        first
        | (refine wpAnyH_take (i := 1) (oi := ({ dst := some 53, op := Op.unOp UnOp.not 4 (Operand.tmp 52), type := 4, pos := "ref.go:47", after := #[{ on := 0, ground := Ground.data }], guard := none })) (v := ?_) rfl (by kernel_rfl) (by kernel_rfl) (by kernel_rfl) (fun _ _ _ h => h) (Or.inl ⟨by rfl, ?_⟩) hHeld ?_
           rotate_left
           · intro w hSw
             (try dsimp only at hSw)
             go_simp
             try with_reducible rfl
           try simp only [Act.put, List.setIfInBounds_toArray, List.set_cons_zero, List.set_cons_succ])
        | fail
        first
        | (refine wpAnyH_take (i := 2) (oi := ({ dst := some 54, op := Op.move (Operand.tmp 53), type := 4, pos := "ref.go:47", after := #[{ on := 1, ground := Ground.data }], guard := none })) (v := ?_) rfl (by kernel_rfl) (by kernel_rfl) (by kernel_rfl) (fun _ _ _ h => h) (Or.inl ⟨by rfl, ?_⟩) hHeld ?_
           rotate_left
           · intro w hSw
             (try dsimp only at hSw)
             go_simp
             try with_reducible rfl
           try simp only [Act.put, List.setIfInBounds_toArray, List.set_cons_zero, List.set_cons_succ])
        | fail
        first
        | (refine wpAnyH_take (i := 3) (oi := ({ dst := some 55, op := Op.load 36 (Operand.tmp 6), type := 36, pos := "ref.go:47", after := #[{ on := 2, ground := Ground.guard }], guard := some (2, false) })) (v := undef) rfl (by kernel_rfl) (by kernel_rfl) (by kernel_rfl) (fun _ _ _ h => h) (Or.inr ⟨by rfl, rfl⟩) hHeld ?_
           try simp only [Act.put, List.setIfInBounds_toArray, List.set_cons_zero, List.set_cons_succ])
        | fail
        first
        | (refine wpAnyH_take (i := 4) (oi := ({ dst := some 56, op := Op.call { callee := Callee.value (Operand.func 22), args := #[Operand.tmp 55], argTypes := #[36] }, type := 4, pos := "ref.go:47", after := #[{ on := 3, ground := Ground.data }, { on := 2, ground := Ground.chain }, { on := 2, ground := Ground.guard }], guard := some (2, false) })) (v := undef) rfl (by kernel_rfl) (by kernel_rfl) (by kernel_rfl) (fun _ _ _ h => h) (Or.inr ⟨by rfl, rfl⟩) hHeld ?_
           try simp only [Act.put, List.setIfInBounds_toArray, List.set_cons_zero, List.set_cons_succ])
        | fail
        first
        | (refine wpAnyH_take (i := 5) (oi := ({ dst := some 57, op := Op.unOp UnOp.not 4 (Operand.tmp 56), type := 4, pos := "ref.go:47", after := #[{ on := 4, ground := Ground.data }, { on := 2, ground := Ground.guard }], guard := some (2, false) })) (v := undef) rfl (by kernel_rfl) (by kernel_rfl) (by kernel_rfl) (fun _ _ _ h => h) (Or.inr ⟨by rfl, rfl⟩) hHeld ?_
           try simp only [Act.put, List.setIfInBounds_toArray, List.set_cons_zero, List.set_cons_succ])
        | fail
        first
        | (refine wpAnyH_take (i := 6) (oi := ({ dst := some 58, op := Op.pick (Operand.tmp 54) (Operand.const (Value.bool true)) (Operand.tmp 57), type := 4, pos := "ref.go:47", after := #[{ on := 2, ground := Ground.data }, { on := 5, ground := Ground.data }], guard := none })) (v := ?_) rfl (by kernel_rfl) (by kernel_rfl) (by kernel_rfl) (fun _ _ _ h => h) (Or.inl ⟨by rfl, ?_⟩) hHeld ?_
           rotate_left
           · intro w hSw
             (try dsimp only at hSw)
             go_simp
             try with_reducible rfl
           try simp only [Act.put, List.setIfInBounds_toArray, List.set_cons_zero, List.set_cons_succ])
        | fail
        first
        | (refine wpAnyH_take (i := 7) (oi := ({ dst := some 59, op := Op.move (Operand.tmp 58), type := 4, pos := "ref.go:47", after := #[{ on := 6, ground := Ground.data }, { on := 4, ground := Ground.chain }], guard := none })) (v := ?_) rfl (by kernel_rfl) (by kernel_rfl) (by kernel_rfl) (fun _ _ _ h => h) (Or.inl ⟨by rfl, ?_⟩) hHeld ?_
           rotate_left
           · intro w hSw
             (try dsimp only at hSw)
             go_simp
             try with_reducible rfl
           try simp only [Act.put, List.setIfInBounds_toArray, List.set_cons_zero, List.set_cons_succ])
        | fail
        first
        | (refine wpAnyH_take (i := 8) (oi := ({ dst := some 60, op := Op.load 36 (Operand.tmp 6), type := 36, pos := "ref.go:47", after := #[{ on := 7, ground := Ground.guard }], guard := some (7, false) })) (v := undef) rfl (by kernel_rfl) (by kernel_rfl) (by kernel_rfl) (fun _ _ _ h => h) (Or.inr ⟨by rfl, rfl⟩) hHeld ?_
           try simp only [Act.put, List.setIfInBounds_toArray, List.set_cons_zero, List.set_cons_succ])
        | fail
        first
        | (refine wpAnyH_take (i := 9) (oi := ({ dst := some 61, op := Op.call { callee := Callee.value (Operand.func 27), args := #[Operand.tmp 60], argTypes := #[36] }, type := 49, pos := "ref.go:47", after := #[{ on := 8, ground := Ground.data }, { on := 7, ground := Ground.chain }, { on := 7, ground := Ground.guard }], guard := some (7, false) })) (v := undef) rfl (by kernel_rfl) (by kernel_rfl) (by kernel_rfl) (fun _ _ _ h => h) (Or.inr ⟨by rfl, rfl⟩) hHeld ?_
           try simp only [Act.put, List.setIfInBounds_toArray, List.set_cons_zero, List.set_cons_succ])
        | fail
        first
        | (refine wpAnyH_take (i := 10) (oi := ({ dst := some 62, op := Op.load 49 (Operand.tmp 1), type := 49, pos := "ref.go:47", after := #[{ on := 7, ground := Ground.guard }], guard := some (7, false) })) (v := undef) rfl (by kernel_rfl) (by kernel_rfl) (by kernel_rfl) (fun _ _ _ h => h) (Or.inr ⟨by rfl, rfl⟩) hHeld ?_
           try simp only [Act.put, List.setIfInBounds_toArray, List.set_cons_zero, List.set_cons_succ])
        | fail
        first
        | (refine wpAnyH_take (i := 11) (oi := ({ dst := some 63, op := Op.call { callee := Callee.value (Operand.func 26), args := #[Operand.tmp 61, Operand.tmp 62], argTypes := #[49, 49] }, type := 4, pos := "ref.go:47", after := #[{ on := 9, ground := Ground.data }, { on := 10, ground := Ground.data }, { on := 9, ground := Ground.chain }, { on := 7, ground := Ground.guard }], guard := some (7, false) })) (v := undef) rfl (by kernel_rfl) (by kernel_rfl) (by kernel_rfl) (fun _ _ _ h => h) (Or.inr ⟨by rfl, rfl⟩) hHeld ?_
           try simp only [Act.put, List.setIfInBounds_toArray, List.set_cons_zero, List.set_cons_succ])
        | fail
        first
        | (refine wpAnyH_take (i := 12) (oi := ({ dst := some 64, op := Op.unOp UnOp.not 4 (Operand.tmp 63), type := 4, pos := "ref.go:47", after := #[{ on := 11, ground := Ground.data }, { on := 7, ground := Ground.guard }], guard := some (7, false) })) (v := undef) rfl (by kernel_rfl) (by kernel_rfl) (by kernel_rfl) (fun _ _ _ h => h) (Or.inr ⟨by rfl, rfl⟩) hHeld ?_
           try simp only [Act.put, List.setIfInBounds_toArray, List.set_cons_zero, List.set_cons_succ])
        | fail
        first
        | (refine wpAnyH_take (i := 13) (oi := ({ dst := some 65, op := Op.pick (Operand.tmp 59) (Operand.const (Value.bool true)) (Operand.tmp 64), type := 4, pos := "ref.go:47", after := #[{ on := 7, ground := Ground.data }, { on := 12, ground := Ground.data }], guard := none })) (v := ?_) rfl (by kernel_rfl) (by kernel_rfl) (by kernel_rfl) (fun _ _ _ h => h) (Or.inl ⟨by rfl, ?_⟩) hHeld ?_
           rotate_left
           · intro w hSw
             (try dsimp only at hSw)
             go_simp
             try with_reducible rfl
           try simp only [Act.put, List.setIfInBounds_toArray, List.set_cons_zero, List.set_cons_succ])
        | fail
        refine wpAnyH_done (by kernel_rfl) ?_ _
        have HB4 := Lib.hid (below_next HB3.out HB3.out.size HBd.out)
        have HZ4 := Lib.hid (HZ3.out.next HBd.out)
        clear KK HBd HB3 HZ3 HV3 HK3 HX3
        generalize wc.drew = W5 at *
        obtain ⟨z0, z1, z2, z3, z4, z5, z6⟩ := cells7 HZ4.out
        obtain ⟨f0, f1, f2, f3, f4, f5, f6⟩ := froz7 HZ4.out
        go_wp2_with fail
        have HK9 := Lib.hid (set7_blk HZ4.out (.bool false) (.int .u64 0) (.int .u64 0) (.string ⟨#[]⟩) (.string ⟨#[]⟩) (.int .u64 0) (.int .u64 0))
        have HB9 := Lib.hid (set7_below HB4.out (Nat.le_succ _) (.bool false) (.int .u64 0) (.int .u64 0) (.string ⟨#[]⟩) (.string ⟨#[]⟩) (.int .u64 0) (.int .u64 0))
        clear z0 z1 z2 z3 z4 z5 z6 f0 f1 f2 f3 f4 f5 f6
        generalize hW9 : set7 W5 (w.heap.size + 1) (.bool false) (.int .u64 0) (.int .u64 0) (.string ⟨#[]⟩) (.string ⟨#[]⟩) (.int .u64 0) (.int .u64 0) = W9 at HK9 HB9
        unfold set7 at hW9
        rw [hW9]
        obtain ⟨z0, z1, z2, z3, z4, z5, z6⟩ := cells7 HK9.out
        refine bodyPost_ret (v := .tuple #[(irI x).val, .bool (irOk x)]) (by rw [HR.out, HE.out]; simp [results, Tryd.results19, go_sem, *]) rfl ⟨rfl, HB9.out⟩
      · clear HRO
        cases ir
        · obtain ⟨hR, hE⟩ := HBAD.out (by rw [HOK.out]; rfl)
          have HR := Lib.hid hR
          have HE := Lib.hid hE
          clear hR hE HBAD HGOOD HOK HIS CW
          refine wp_region_held_drew (S := (fun w' => (w'.cell? ⟨W2.heap.size, 0, none⟩ = some (.bool i) ∧ w'.cell? ⟨W2.heap.size, 1, none⟩ = some (.int .u64 n) ∧ w'.cell? ⟨W2.heap.size, 2, none⟩ = some (.int .u64 s) ∧ w'.cell? ⟨W2.heap.size, 3, none⟩ = some (.string hh) ∧ w'.cell? ⟨W2.heap.size, 4, none⟩ = some (.string d) ∧ w'.cell? ⟨W2.heap.size, 5, none⟩ = some (.int .u64 nt) ∧ w'.cell? ⟨W2.heap.size, 6, none⟩ = some (.int .u64 nq)) ∧ (w'.cell? ⟨w.heap.size, 0, none⟩ = some (.int .i64 x.kind) ∧ w'.cell? ⟨w.heap.size, 1, none⟩ = some (.int .u64 x.num) ∧ w'.cell? ⟨w.heap.size, 2, none⟩ = some (.slice A x.bs.length c) ∧ w'.cell? ⟨w.heap.size, 3, none⟩ = some (.slice (some ⟨b, o, none⟩) 2 c')))) (by kernel_rfl) (KK.out _ HBd.out) (fun hHeld => ?_)
          first
          | (refine wpAnyH_take (i := 0) (oi := ({ dst := some 52, op := Op.move (Operand.tmp 5), type := 4, pos := "ref.go:47", after := #[], guard := none })) (v := ?_) rfl (by kernel_rfl) (by kernel_rfl) (by kernel_rfl) (fun _ _ _ h => h) (Or.inl ⟨by rfl, ?_⟩) hHeld ?_
             rotate_left
             · intro w hSw
               (try dsimp only at hSw)
               go_simp
               try with_reducible rfl
             try simp only [Act.put, List.setIfInBounds_toArray, List.set_cons_zero, List.set_cons_succ])
          | fail
          first
          | (refine wpAnyH_take (i := 1) (oi := ({ dst := some 53, op := Op.unOp UnOp.not 4 (Operand.tmp 52), type := 4, pos := "ref.go:47", after := #[{ on := 0, ground := Ground.data }], guard := none })) (v := ?_) rfl (by kernel_rfl) (by kernel_rfl) (by kernel_rfl) (fun _ _ _ h => h) (Or.inl ⟨by rfl, ?_⟩) hHeld ?_
             rotate_left
             · intro w hSw
               (try dsimp only at hSw)
               go_simp
               try with_reducible rfl
             try simp only [Act.put, List.setIfInBounds_toArray, List.set_cons_zero, List.set_cons_succ])
          | fail
          first
          | (refine wpAnyH_take (i := 2) (oi := ({ dst := some 54, op := Op.move (Operand.tmp 53), type := 4, pos := "ref.go:47", after := #[{ on := 1, ground := Ground.data }], guard := none })) (v := ?_) rfl (by kernel_rfl) (by kernel_rfl) (by kernel_rfl) (fun _ _ _ h => h) (Or.inl ⟨by rfl, ?_⟩) hHeld ?_
             rotate_left
             · intro w hSw
               (try dsimp only at hSw)
               go_simp
               try with_reducible rfl
             try simp only [Act.put, List.setIfInBounds_toArray, List.set_cons_zero, List.set_cons_succ])
          | fail
          first
          | (refine wpAnyH_take (i := 3) (oi := ({ dst := some 55, op := Op.load 36 (Operand.tmp 6), type := 36, pos := "ref.go:47", after := #[{ on := 2, ground := Ground.guard }], guard := some (2, false) })) (v := ?_) rfl (by kernel_rfl) (by kernel_rfl) (by kernel_rfl) (fun _ _ _ h => h) (Or.inl ⟨by rfl, ?_⟩) hHeld ?_
             rotate_left
             · intro w hSw
               (try dsimp only at hSw)
               go_simp
               try with_reducible rfl
             try simp only [Act.put, List.setIfInBounds_toArray, List.set_cons_zero, List.set_cons_succ])
          | fail
          refine wpAnyH_ready (rs := [4]) (by kernel_rfl) (by simp) ?_
          refine AllReadyH.cons (o := ({ dst := some 56, op := Op.call { callee := Callee.value (Operand.func 22), args := #[Operand.tmp 55], argTypes := #[36] }, type := 4, pos := "ref.go:47", after := #[{ on := 3, ground := Ground.data }, { on := 2, ground := Ground.chain }, { on := 2, ground := Ground.guard }], guard := some (2, false) })) rfl (fun K hK => ?_) AllReadyH.nil
          go_simp
          refine (CR.out _).mono ?_
          rintro e wA ⟨rfl, hbA⟩
          have HBA := Lib.hid (below_next HBd.out HBd.out.size hbA)
          clear hbA
          refine hK.out _ _ ?_ (fun hHeld2 => ?_)
          · (try dsimp only)
            exact KK.out _ HBA.out
          clear hK K hHeld
          rename _ => hHeld
          try simp only [Act.put, List.setIfInBounds_toArray, List.set_cons_zero, List.set_cons_succ]
          first
          | (refine wpAnyH_take (i := 5) (oi := ({ dst := some 57, op := Op.unOp UnOp.not 4 (Operand.tmp 56), type := 4, pos := "ref.go:47", after := #[{ on := 4, ground := Ground.data }, { on := 2, ground := Ground.guard }], guard := some (2, false) })) (v := ?_) rfl (by kernel_rfl) (by kernel_rfl) (by kernel_rfl) (fun _ _ _ h => h) (Or.inl ⟨by rfl, ?_⟩) hHeld ?_
             rotate_left
             · intro w hSw
               (try dsimp only at hSw)
               go_simp
               try with_reducible rfl
             try simp only [Act.put, List.setIfInBounds_toArray, List.set_cons_zero, List.set_cons_succ])
          | fail
          first
          | (refine wpAnyH_take (i := 6) (oi := ({ dst := some 58, op := Op.pick (Operand.tmp 54) (Operand.const (Value.bool true)) (Operand.tmp 57), type := 4, pos := "ref.go:47", after := #[{ on := 2, ground := Ground.data }, { on := 5, ground := Ground.data }], guard := none })) (v := ?_) rfl (by kernel_rfl) (by kernel_rfl) (by kernel_rfl) (fun _ _ _ h => h) (Or.inl ⟨by rfl, ?_⟩) hHeld ?_
             rotate_left
             · intro w hSw
               (try dsimp only at hSw)
               go_simp
               try with_reducible rfl
             try simp only [Act.put, List.setIfInBounds_toArray, List.set_cons_zero, List.set_cons_succ])
          | fail
          first
          | (refine wpAnyH_take (i := 7) (oi := ({ dst := some 59, op := Op.move (Operand.tmp 58), type := 4, pos := "ref.go:47", after := #[{ on := 6, ground := Ground.data }, { on := 4, ground := Ground.chain }], guard := none })) (v := ?_) rfl (by kernel_rfl) (by kernel_rfl) (by kernel_rfl) (fun _ _ _ h => h) (Or.inl ⟨by rfl, ?_⟩) hHeld ?_
             rotate_left
             · intro w hSw
               (try dsimp only at hSw)
               go_simp
               try with_reducible rfl
             try simp only [Act.put, List.setIfInBounds_toArray, List.set_cons_zero, List.set_cons_succ])
          | fail
          first
          | (refine wpAnyH_take (i := 8) (oi := ({ dst := some 60, op := Op.load 36 (Operand.tmp 6), type := 36, pos := "ref.go:47", after := #[{ on := 7, ground := Ground.guard }], guard := some (7, false) })) (v := undef) rfl (by kernel_rfl) (by kernel_rfl) (by kernel_rfl) (fun _ _ _ h => h) (Or.inr ⟨by rfl, rfl⟩) hHeld ?_
             try simp only [Act.put, List.setIfInBounds_toArray, List.set_cons_zero, List.set_cons_succ])
          | fail
          first
          | (refine wpAnyH_take (i := 9) (oi := ({ dst := some 61, op := Op.call { callee := Callee.value (Operand.func 27), args := #[Operand.tmp 60], argTypes := #[36] }, type := 49, pos := "ref.go:47", after := #[{ on := 8, ground := Ground.data }, { on := 7, ground := Ground.chain }, { on := 7, ground := Ground.guard }], guard := some (7, false) })) (v := undef) rfl (by kernel_rfl) (by kernel_rfl) (by kernel_rfl) (fun _ _ _ h => h) (Or.inr ⟨by rfl, rfl⟩) hHeld ?_
             try simp only [Act.put, List.setIfInBounds_toArray, List.set_cons_zero, List.set_cons_succ])
          | fail
          first
          | (refine wpAnyH_take (i := 10) (oi := ({ dst := some 62, op := Op.load 49 (Operand.tmp 1), type := 49, pos := "ref.go:47", after := #[{ on := 7, ground := Ground.guard }], guard := some (7, false) })) (v := undef) rfl (by kernel_rfl) (by kernel_rfl) (by kernel_rfl) (fun _ _ _ h => h) (Or.inr ⟨by rfl, rfl⟩) hHeld ?_
             try simp only [Act.put, List.setIfInBounds_toArray, List.set_cons_zero, List.set_cons_succ])
          | fail
          first
          | (refine wpAnyH_take (i := 11) (oi := ({ dst := some 63, op := Op.call { callee := Callee.value (Operand.func 26), args := #[Operand.tmp 61, Operand.tmp 62], argTypes := #[49, 49] }, type := 4, pos := "ref.go:47", after := #[{ on := 9, ground := Ground.data }, { on := 10, ground := Ground.data }, { on := 9, ground := Ground.chain }, { on := 7, ground := Ground.guard }], guard := some (7, false) })) (v := undef) rfl (by kernel_rfl) (by kernel_rfl) (by kernel_rfl) (fun _ _ _ h => h) (Or.inr ⟨by rfl, rfl⟩) hHeld ?_
             try simp only [Act.put, List.setIfInBounds_toArray, List.set_cons_zero, List.set_cons_succ])
          | fail
          first
          | (refine wpAnyH_take (i := 12) (oi := ({ dst := some 64, op := Op.unOp UnOp.not 4 (Operand.tmp 63), type := 4, pos := "ref.go:47", after := #[{ on := 11, ground := Ground.data }, { on := 7, ground := Ground.guard }], guard := some (7, false) })) (v := undef) rfl (by kernel_rfl) (by kernel_rfl) (by kernel_rfl) (fun _ _ _ h => h) (Or.inr ⟨by rfl, rfl⟩) hHeld ?_
             try simp only [Act.put, List.setIfInBounds_toArray, List.set_cons_zero, List.set_cons_succ])
          | fail
          first
          | (refine wpAnyH_take (i := 13) (oi := ({ dst := some 65, op := Op.pick (Operand.tmp 59) (Operand.const (Value.bool true)) (Operand.tmp 64), type := 4, pos := "ref.go:47", after := #[{ on := 7, ground := Ground.data }, { on := 12, ground := Ground.data }], guard := none })) (v := ?_) rfl (by kernel_rfl) (by kernel_rfl) (by kernel_rfl) (fun _ _ _ h => h) (Or.inl ⟨by rfl, ?_⟩) hHeld ?_
             rotate_left
             · intro w hSw
               (try dsimp only at hSw)
               go_simp
               try with_reducible rfl
             try simp only [Act.put, List.setIfInBounds_toArray, List.set_cons_zero, List.set_cons_succ])
          | fail
          refine wpAnyH_done (by kernel_rfl) ?_ _
          have HB4 := Lib.hid (below_next HB3.out HB3.out.size HBA.out)
          have HZ4 := Lib.hid (HZ3.out.next HBA.out)
          have HV4 := Lib.hid (HV3.out.next HBA.out)
          clear KK HBd HBA
          obtain ⟨z0, z1, z2, z3, z4, z5, z6⟩ := cells7 HZ4.out
          obtain ⟨f0, f1, f2, f3, f4, f5, f6⟩ := froz7 HZ4.out
          go_wp2_with fail
          have HK9 := Lib.hid (set7_blk HZ4.out (.bool false) (.int .u64 0) (.int .u64 0) (.string ⟨#[]⟩) (.string ⟨#[]⟩) (.int .u64 0) (.int .u64 0))
          have HB9 := Lib.hid (set7_below HB4.out (Nat.le_succ _) (.bool false) (.int .u64 0) (.int .u64 0) (.string ⟨#[]⟩) (.string ⟨#[]⟩) (.int .u64 0) (.int .u64 0))
          clear z0 z1 z2 z3 z4 z5 z6 f0 f1 f2 f3 f4 f5 f6
          generalize hW9 : set7 wA (w.heap.size + 1) (.bool false) (.int .u64 0) (.int .u64 0) (.string ⟨#[]⟩) (.string ⟨#[]⟩) (.int .u64 0) (.int .u64 0) = W9 at HK9 HB9
          unfold set7 at hW9
          rw [hW9]
          obtain ⟨z0, z1, z2, z3, z4, z5, z6⟩ := cells7 HK9.out
          refine bodyPost_ret (v := .tuple #[(irI x).val, .bool (irOk x)]) (by rw [HR.out, HE.out]; simp [results, Tryd.results19, go_sem, *]) rfl ⟨rfl, HB9.out⟩
        · have CW' := Lib.hid (CW.out (by first | rfl | trivial))
          clear CW
          have CW := CW'
          clear CW'
          have his := HIS.out (by first | rfl | trivial)
          have CS := Lib.hid (fun v u w' hv hu => RefSame.refSame_any 100 T x v u w' (by omega) hv hu (by omega) hsx)
          clear his HIS
          rw [Bool.true_and] at HOK
          generalize same T x = sm at *
          obtain ⟨⟨v0, v1, v2, v3, v4, v5, v6⟩, k0, k1, k2, k3⟩ := KK.out wc (Below.refl _ _)
          go_region_held3 (fun w' => (w'.cell? ⟨W2.heap.size, 0, none⟩ = some (.bool i) ∧ w'.cell? ⟨W2.heap.size, 1, none⟩ = some (.int .u64 n) ∧ w'.cell? ⟨W2.heap.size, 2, none⟩ = some (.int .u64 s) ∧ w'.cell? ⟨W2.heap.size, 3, none⟩ = some (.string hh) ∧ w'.cell? ⟨W2.heap.size, 4, none⟩ = some (.string d) ∧ w'.cell? ⟨W2.heap.size, 5, none⟩ = some (.int .u64 nt) ∧ w'.cell? ⟨W2.heap.size, 6, none⟩ = some (.int .u64 nq)) ∧ (w'.cell? ⟨w.heap.size, 0, none⟩ = some (.int .i64 x.kind) ∧ w'.cell? ⟨w.heap.size, 1, none⟩ = some (.int .u64 x.num) ∧ w'.cell? ⟨w.heap.size, 2, none⟩ = some (.slice A x.bs.length c) ∧ w'.cell? ⟨w.heap.size, 3, none⟩ = some (.slice (some ⟨b, o, none⟩) 2 c')))
            (first | with_reducible exact KK.out _ HBd.out | with_reducible exact KK.out _ HBA.out | with_reducible exact KK.out _ HBB.out | with_reducible exact KK.out _ HBC.out | fail)
            (first | (go_at_call 26; (with_reducible refine (CS.out _ _ _ HIB.out HXB.out).mono ?_); rintro e wC ⟨rfl, hbC⟩; have HBC := Lib.hid (below_next HBB.out HBB.out.size hbC); clear hbC) | (go_at_call 27; (with_reducible refine (CW.out _).mono ?_); rintro e wB ⟨vb, rfl, HIB, hbB⟩; obtain ⟨kb, nb, Ab, lb, cb, Ab', lb', cb', hvb⟩ : ∃ kb nb Ab lb cb Ab' lb' cb', vb = .agg #[.int .i64 kb, .int .u64 nb, .slice Ab lb cb, .slice Ab' lb' cb'] := (by obtain ⟨_, _, _, _, e, _⟩ := HIB.out.open_; exact ⟨_, _, _, _, _, _, _, _, e⟩); subst hvb; have HBB := Lib.hid (below_next HBA.out HBA.out.size hbB); have HXB := Lib.hid ((HX3.out.below HBB.out).more (Nat.le_refl _) HBB.out.size); clear hbB) | (go_at_call 22; (with_reducible refine (CR.out _).mono ?_); rintro e wA ⟨rfl, hbA⟩; have HBA := Lib.hid (below_next HBd.out HBd.out.size hbA); clear hbA) | fail)
          clear v0 v1 v2 v3 v4 v5 v6 k0 k1 k2 k3
          have HB4 := Lib.hid (below_next HB3.out HB3.out.size HBC.out)
          have HZ4 := Lib.hid (HZ3.out.next HBC.out)
          have HV4 := Lib.hid (HV3.out.next HBC.out)
          clear KK HBd HBA HBB HBC HIB CS CW CR
          cases sm
          · obtain ⟨hR, hE⟩ := HBAD.out (by rw [HOK.out])
            have HR := Lib.hid hR
            have HE := Lib.hid hE
            clear hR hE HBAD HGOOD HOK
            obtain ⟨z0, z1, z2, z3, z4, z5, z6⟩ := cells7 HZ4.out
            obtain ⟨f0, f1, f2, f3, f4, f5, f6⟩ := froz7 HZ4.out
            go_wp2_with fail
            have HK9 := Lib.hid (set7_blk HZ4.out (.bool false) (.int .u64 0) (.int .u64 0) (.string ⟨#[]⟩) (.string ⟨#[]⟩) (.int .u64 0) (.int .u64 0))
            have HB9 := Lib.hid (set7_below HB4.out (Nat.le_succ _) (.bool false) (.int .u64 0) (.int .u64 0) (.string ⟨#[]⟩) (.string ⟨#[]⟩) (.int .u64 0) (.int .u64 0))
            clear z0 z1 z2 z3 z4 z5 z6 f0 f1 f2 f3 f4 f5 f6
            generalize hW9 : set7 wC (w.heap.size + 1) (.bool false) (.int .u64 0) (.int .u64 0) (.string ⟨#[]⟩) (.string ⟨#[]⟩) (.int .u64 0) (.int .u64 0) = W9 at HK9 HB9
            unfold set7 at hW9
            rw [hW9]
            obtain ⟨z0, z1, z2, z3, z4, z5, z6⟩ := cells7 HK9.out
            refine bodyPost_ret (v := .tuple #[(irI x).val, .bool (irOk x)]) (by rw [HR.out, HE.out]; simp [results, Tryd.results19, go_sem, *]) rfl ⟨rfl, HB9.out⟩
          · obtain ⟨hR, hE⟩ := HGOOD.out (by rw [HOK.out])
            have HR := Lib.hid hR
            have HE := Lib.hid hE
            clear hR hE HBAD HGOOD HOK
            obtain ⟨v0, v1, v2, v3, v4, v5, v6⟩ := cells7 HV4.out
            obtain ⟨z0, z1, z2, z3, z4, z5, z6⟩ := cells7 HZ4.out
            obtain ⟨f0, f1, f2, f3, f4, f5, f6⟩ := froz7 HZ4.out
            go_wp2_with fail
            have HK9 := Lib.hid (set7_blk HZ4.out (.bool i) (.int .u64 n) (.int .u64 s) (.string hh) (.string d) (.int .u64 nt) (.int .u64 nq))
            have HB9 := Lib.hid (set7_below HB4.out (Nat.le_succ _) (.bool i) (.int .u64 n) (.int .u64 s) (.string hh) (.string d) (.int .u64 nt) (.int .u64 nq))
            clear v0 v1 v2 v3 v4 v5 v6 z0 z1 z2 z3 z4 z5 z6 f0 f1 f2 f3 f4 f5 f6
            generalize hW9 : set7 wC (w.heap.size + 1) (.bool i) (.int .u64 n) (.int .u64 s) (.string hh) (.string d) (.int .u64 nt) (.int .u64 nq) = W9 at HK9 HB9
            unfold set7 at hW9
            rw [hW9]
            obtain ⟨z0, z1, z2, z3, z4, z5, z6⟩ := cells7 HK9.out
            refine bodyPost_ret (v := .tuple #[(irI x).val, .bool (irOk x)]) (by rw [HR.out, HE.out]; simp [results, Tryd.results19, go_sem, *]) rfl ⟨rfl, HB9.out⟩
end Go.Proofs.YtbgcbcnidjlhnaaDoor.Eid
