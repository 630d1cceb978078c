/- The contracts of As of layer 5's statements, and of the reference's Right, Ahead (layer 5). -/
import Derived.Test.YtbgcbcnidjlhnaaDoorZm5
import Derived.Test.YtbgcbcnidjlhnaaDoorRefLess
import Derived.Test.YtbgcbcnidjlhnaaDoorRefEid
import Derived.Deep.RegionHeld3
namespace Go.Proofs.YtbgcbcnidjlhnaaDoor.Eid
open Go.RowKit Wd Cb

set_option maxRecDepth 100000 in
set_option maxHeartbeats 4000000 in
theorem as05_any (x : Id) (w : World) : Calls Tryd.prog 15 #[x.val] w fun e w' => e = .returned x.val ∧ Below w.heap.size w w' := by
  have CA := Lib.hid (fun w' => as04_any x.src w')
  obtain ⟨⟨i, n, s, h, d⟩, t, q⟩ := x
  have HB := Lib.hid (((Below.refl w.heap.size w).alloc (Nat.le_refl _) (.cells #[.bool i, .int .u64 n, .int .u64 s, .string h, .string d, .int .u64 t, .int .u64 q] 26)).alloc (by simp) (.cells zero7 36))
  have HK := Lib.hid ((Blk.new w 26 #[.bool i, .int .u64 n, .int .u64 s, .string h, .string d, .int .u64 t, .int .u64 q]).alloc (.cells zero7 36))
  have HZ := Lib.hid (Blk.new (w.alloc (.cells #[.bool i, .int .u64 n, .int .u64 s, .string h, .string d, .int .u64 t, .int .u64 q] 26)) 36 zero7)
  rw [World.size_alloc] at HZ
  go_enter Tryd.func15, Tryd.ntmps15
  go_upto_region 1 with (fail)
  generalize (w.alloc (.cells #[.bool i, .int .u64 n, .int .u64 s, .string h, .string d, .int .u64 t, .int .u64 q] 26)).alloc (.cells #[.bool false, .int .u64 0, .int .u64 0, .string ⟨#[]⟩, .string ⟨#[]⟩, .int .u64 0, .int .u64 0] 36) = W at *
  have HBd := Lib.hid ((Below.refl W.heap.size W).drew)
  have KC := Lib.hid (fun (w' : World) (hW : Below W.heap.size W w') => cells7 (HK.out.next hW))
  have KF := Lib.hid (fun (w' : World) (hW : Below W.heap.size W w') (a b c d e f k : Value) => cells7 (set7_far (HK.out.next hW) (Nat.ne_of_lt (Nat.lt_succ_self w.heap.size)) a b c d e f k))
  have KZ := Lib.hid (fun (w' : World) (hW : Below W.heap.size W w') => And.intro (cells7 (HZ.out.next hW)) (froz7 (HZ.out.next hW)))
  go_region_held3 (fun w' => w'.cell? ⟨w.heap.size, 0, none⟩ = some (.bool i) ∧ w'.cell? ⟨w.heap.size, 1, none⟩ = some (.int .u64 n) ∧ w'.cell? ⟨w.heap.size, 2, none⟩ = some (.int .u64 s) ∧ w'.cell? ⟨w.heap.size, 3, none⟩ = some (.string h) ∧ w'.cell? ⟨w.heap.size, 4, none⟩ = some (.string d) ∧ w'.cell? ⟨w.heap.size, 5, none⟩ = some (.int .u64 t) ∧ w'.cell? ⟨w.heap.size, 6, none⟩ = some (.int .u64 q))
    (first | with_reducible exact KC.out _ HBd.out | with_reducible exact KC.out _ HBA.out | with_reducible exact KF.out _ HBA.out _ _ _ _ _ _ _ | fail)
    (first | (go_at_call 33; (with_reducible refine (CA.out _).mono ?_); rintro e wA ⟨rfl, hbA⟩; have HBA := Lib.hid (below_next HBd.out HBd.out.size hbA); obtain ⟨⟨z0, z1, z2, z3, z4, z5, z6⟩, f0, f1, f2, f3, f4, f5, f6⟩ := KZ.out _ HBA.out; clear hbA) | fail)
  have HBE := Lib.hid (below_next HB.out HB.out.size HBA.out)
  have HZE := Lib.hid (HZ.out.next HBA.out)
  have HF1 := Lib.hid (set7_blk HZE.out (.bool i) (.int .u64 n) (.int .u64 s) (.string h) (.string d) (.int .u64 t) (.int .u64 q))
  have HF2 := Lib.hid (set7_below HBE.out (Nat.le_succ _) (.bool i) (.int .u64 n) (.int .u64 s) (.string h) (.string d) (.int .u64 t) (.int .u64 q))
  clear z0 z1 z2 z3 z4 z5 z6 f0 f1 f2 f3 f4 f5 f6 KC KF KZ HBA HZE HBE
  generalize hW9 : set7 wA (w.heap.size + 1) (.bool i) (.int .u64 n) (.int .u64 s) (.string h) (.string d) (.int .u64 t) (.int .u64 q) = W9 at HF1 HF2
  unfold set7 at hW9
  rw [hW9]
  go_wp2_with fail
  obtain ⟨z0, z1, z2, z3, z4, z5, z6⟩ := cells7 HF1.out
  refine bodyPost_ret (v := .agg #[.bool i, .int .u64 n, .int .u64 s, .string h, .string d, .int .u64 t, .int .u64 q]) (by simp [results, Tryd.results15, go_sem, *]) rfl ⟨rfl, HF2.out⟩

set_option maxHeartbeats 2000000 in
theorem right05_any (x : Id) (hx : x.ok) (w : World) : Calls Tryd.prog 22 #[x.val] w fun e w' => e = .returned (.bool (iright x)) ∧ Below w.heap.size w w' := by
  have CR := Lib.hid (fun w' => kind04_any x.src hx.s w')
  have HE := Lib.hid (show iright x = (right x.src && (decide (x.time ≤ 1099511627776) && decide (x.seq ≤ 1099511627776))) from rfl)
  have HRK : Hid (decide (0 ≤ rk x.src) = right x.src) := Lib.hid (by
    unfold rk
    cases right x.src
    · rfl
    · have := kd_cases x.src
      exact decide_eq_true (by rw [if_pos rfl]; omega))
  clear hx
  generalize iright x = ir at *
  generalize rk x.src = k at *
  generalize right x.src = r at *
  obtain ⟨⟨i, n, s, h, d⟩, t, q⟩ := x
  have HB := Lib.hid ((Below.refl w.heap.size w).alloc (Nat.le_refl _) (.cells #[.bool i, .int .u64 n, .int .u64 s, .string h, .string d, .int .u64 t, .int .u64 q] 36))
  have HK := Lib.hid (Blk.new w 36 #[.bool i, .int .u64 n, .int .u64 s, .string h, .string d, .int .u64 t, .int .u64 q])
  go_enter Tryd.func22, Tryd.ntmps22
  go_wp2_with fail
  refine (CR.out _).mono ?_
  rintro e w1 ⟨rfl, hb⟩
  have HB1 := Lib.hid (below_next HB.out HB.out.size hb)
  obtain ⟨c0, c1, c2, c3, c4, c5, c6⟩ := cells7 (HK.out.next hb)
  clear hb HB HK CR
  cases r
  · have hk : decide (0 ≤ k) = false := HRK.out
    go_wp2_with fail
    go_ret
    exact ⟨by rw [HE.out]; rfl, HB1.out⟩
  · have hk : decide (0 ≤ k) = true := HRK.out
    cases h1 : decide (t ≤ 1099511627776)
    · have HF := Lib.hid (show ir = false by rw [HE.out, h1]; rfl)
      go_wp2_with fail
      go_ret
      exact ⟨by rw [HF.out]; rfl, HB1.out⟩
    · cases h2 : decide (q ≤ 1099511627776)
      · have HF := Lib.hid (show ir = false by rw [HE.out, h1, h2]; rfl)
        go_wp2_with fail
        go_ret
        exact ⟨by rw [HF.out]; rfl, HB1.out⟩
      · have HF := Lib.hid (show ir = true by rw [HE.out, h1, h2]; rfl)
        go_wp2_with fail
        go_ret
        exact ⟨by rw [HF.out]; rfl, HB1.out⟩

set_option maxRecDepth 100000 in
set_option maxHeartbeats 4000000 in
theorem ahead05_any (x y : Id) (w : World) : Calls Tryd.prog 24 #[x.val, y.val] w fun e w' => e = .returned (.bool (ils x y)) ∧ Below w.heap.size w w' := by
  have CL := Lib.hid (fun w' => less04_any x.src y.src w')
  have H1 := Lib.hid (@ils_time x y)
  have H2 := Lib.hid (@ils_seq x y)
  have H3 := Lib.hid (@ils_src x y)
  generalize ils x y = il at *
  generalize decide (ord x.src y.src < 0) = ol at *
  obtain ⟨⟨i1, n1, s1, h1, d1⟩, t1, q1⟩ := x
  obtain ⟨⟨i2, n2, s2, h2, d2⟩, t2, q2⟩ := y
  have HB := Lib.hid (((Below.refl w.heap.size w).alloc (Nat.le_refl _) (.cells #[.bool i1, .int .u64 n1, .int .u64 s1, .string h1, .string d1, .int .u64 t1, .int .u64 q1] 36)).alloc (by simp) (.cells #[.bool i2, .int .u64 n2, .int .u64 s2, .string h2, .string d2, .int .u64 t2, .int .u64 q2] 36))
  have k1 := (Blk.new w 36 #[.bool i1, .int .u64 n1, .int .u64 s1, .string h1, .string d1, .int .u64 t1, .int .u64 q1]).alloc (.cells #[.bool i2, .int .u64 n2, .int .u64 s2, .string h2, .string d2, .int .u64 t2, .int .u64 q2] 36)
  have k2 := Blk.new (w.alloc (.cells #[.bool i1, .int .u64 n1, .int .u64 s1, .string h1, .string d1, .int .u64 t1, .int .u64 q1] 36)) 36 #[.bool i2, .int .u64 n2, .int .u64 s2, .string h2, .string d2, .int .u64 t2, .int .u64 q2]
  simp only [World.size_alloc] at k2
  have HK1 := Lib.hid k1
  have HK2 := Lib.hid k2
  clear k1 k2
  go_enter Tryd.func24, Tryd.ntmps24
  go_upto_region 1 with (fail)
  generalize (w.alloc (.cells #[.bool i1, .int .u64 n1, .int .u64 s1, .string h1, .string d1, .int .u64 t1, .int .u64 q1] 36)).alloc (.cells #[.bool i2, .int .u64 n2, .int .u64 s2, .string h2, .string d2, .int .u64 t2, .int .u64 q2] 36) = W at *
  obtain ⟨x0, x1, x2, x3, x4, x5, x6⟩ := cells7 HK1.out
  obtain ⟨y0, y1, y2, y3, y4, y5, y6⟩ := cells7 HK2.out
  clear HK1 HK2
  by_cases e1 : t1 = t2
  · by_cases e2 : q1 = q2
    · have HR := Lib.hid (H3.out e1 e2)
      have b1 : (t1 != t2) = false := by simpa using e1
      have b2 : (q1 != q2) = false := by simpa using e2
      clear H1 H2 H3 e1 e2
      go_wp2_with fail
      refine (CL.out _).mono ?_
      rintro e w1 ⟨rfl, hb⟩
      have HE1 := Lib.hid (below_next HB.out HB.out.size hb)
      clear hb x0 x1 x2 x3 x4 x5 x6 y0 y1 y2 y3 y4 y5 y6
      go_wp2_with fail
      go_ret
      exact ⟨by rw [HR.out]; rfl, HE1.out⟩
    · have HR := Lib.hid (H2.out e1 e2)
      have b1 : (t1 != t2) = false := by simpa using e1
      have b2 : (q1 != q2) = true := by simpa using e2
      clear H1 H2 H3 e1 e2
      go_wp2_with fail
      go_ret
      exact ⟨by rw [HR.out]; rfl, HB.out⟩
  · have HR := Lib.hid (H1.out e1)
    have b1 : (t1 != t2) = true := by simpa using e1
    clear H1 H2 H3 e1
    go_wp2_with fail
    go_ret
    exact ⟨by rw [HR.out]; rfl, HB.out⟩
end Go.Proofs.YtbgcbcnidjlhnaaDoor.Eid
