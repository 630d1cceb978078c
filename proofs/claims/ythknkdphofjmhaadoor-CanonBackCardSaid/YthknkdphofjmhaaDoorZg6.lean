/- Texts of my own, laid together: IdW, IdW2, IdS. -/
import Derived.Test.YthknkdphofjmhaaDoorIdP
import Derived.Deep.RegionHeld3
/- The contracts of ident.Right, Ahead, and of the statements' As and Great (layer 5). -/
namespace Go.Proofs.YthknkdphofjmhaaDoor.Eid
open Go.RowKit Wd Cb

theorem cells7 {w : World} {g : Nat} {t : TypeId} {a b c d e f k : Value} (h : Blk w g t #[a, b, c, d, e, f, k]) : w.cell? ⟨g, 0, none⟩ = some a ∧ w.cell? ⟨g, 1, none⟩ = some b ∧ w.cell? ⟨g, 2, none⟩ = some c ∧ w.cell? ⟨g, 3, none⟩ = some d ∧ w.cell? ⟨g, 4, none⟩ = some e ∧ w.cell? ⟨g, 5, none⟩ = some f ∧ w.cell? ⟨g, 6, none⟩ = some k :=
  ⟨by simpa using h.cell 0, by simpa using h.cell 1, by simpa using h.cell 2, by simpa using h.cell 3, by simpa using h.cell 4, by simpa using h.cell 5, by simpa using h.cell 6⟩

set_option maxHeartbeats 2000000 in
theorem iright_any (x : Id) (hx : x.ok) (w : World) : Calls Tryd.prog 77 #[x.val] w fun e w' => e = .returned (.bool (iright x)) ∧ Below w.heap.size w w' := by
  have CR := Lib.hid (fun w' => right_any x.src hx.s w')
  have HE := Lib.hid (show iright x = (right x.src && (decide (x.time ≤ 1099511627776) && decide (x.seq ≤ 1099511627776))) from rfl)
  clear hx
  generalize iright x = ir at *
  generalize right x.src = r at *
  obtain ⟨⟨i, n, s, h, d⟩, t, q⟩ := x
  have HB := Lib.hid ((Below.refl w.heap.size w).alloc (Nat.le_refl _) (.cells #[.bool i, .int .u64 n, .int .u64 s, .string h, .string d, .int .u64 t, .int .u64 q] 68))
  have HK := Lib.hid (Blk.new w 68 #[.bool i, .int .u64 n, .int .u64 s, .string h, .string d, .int .u64 t, .int .u64 q])
  go_enter Tryd.func77, Tryd.ntmps77
  go_wp2_with fail
  refine (CR.out _).mono ?_
  rintro e w1 ⟨rfl, hb⟩
  have HB1 := Lib.hid (below_next HB.out HB.out.size hb)
  obtain ⟨c0, c1, c2, c3, c4, c5, c6⟩ := cells7 (HK.out.next hb)
  clear hb HB HK CR
  cases r
  · go_wp2_with fail
    go_ret
    exact ⟨by rw [HE.out]; rfl, HB1.out⟩
  · cases h1 : decide (t ≤ 1099511627776)
    · have HF := Lib.hid (show ir = false by rw [HE.out, h1]; rfl)
      go_wp2_with fail
      go_ret
      exact ⟨by rw [HF.out]; rfl, HB1.out⟩
    · cases h2 : decide (q ≤ 1099511627776)
      · have HF := Lib.hid (show ir = false by rw [HE.out, h1, h2]; rfl)
        go_wp2_with fail
        go_ret
        exact ⟨by rw [HF.out]; rfl, HB1.out⟩
      · have HF := Lib.hid (show ir = true by rw [HE.out, h1, h2]; rfl)
        go_wp2_with fail
        go_ret
        exact ⟨by rw [HF.out]; rfl, HB1.out⟩

end Go.Proofs.YthknkdphofjmhaaDoor.Eid
/- The contracts of ident.Write and Text, and of As and Great of layer 5's statements. -/
namespace Go.Proofs.YthknkdphofjmhaaDoor.Eid
open Go.RowKit Wd Cb

theorem set4_far {w : World} {g k : Nat} {t : TypeId} {cs : Array Value} (h : Blk w g t cs) (hn : g ≠ k) (a b c d : Value) : Blk (set4 w k a b c d) g t cs :=
  (((h.far (p := ⟨k, 0, none⟩) hn a).far (p := ⟨k, 1, none⟩) hn b).far (p := ⟨k, 2, none⟩) hn c).far (p := ⟨k, 3, none⟩) hn d
theorem itemOf_small (x : Nm) (hx : x.ok) (hr : right x = true) : CbList.wide (itemOf x) ≤ 4000000000 ∧ size (itemOf x) ≤ 5 ∧ deep (itemOf x) ≤ 3 := by
  unfold itemOf
  split
  · simp [CbList.wide, CbList.wides, size, sizes, deep, deeps]
  · split
    · simp [CbList.wide, CbList.wides, size, sizes, deep, deeps]
    · rename_i h0 h1
      have h := right_texts x hr h0 h1
      have e := path_size x.host x.demux
      have e2 := CbCopy.nums_length (pathOf x.host x.demux)
      simp [CbList.wide, CbList.wides, size, sizes, deep, deeps]
      omega

set_option maxRecDepth 100000 in
set_option maxHeartbeats 4000000 in
theorem iwrite_any (x : Id) (hx : x.ok) (w : World) : Calls Tryd.prog 53 #[x.val] w fun e w' => ∃ v, e = .returned (.tuple #[v, .int .i64 (if iright x then 0 else 3)]) ∧ Hid (ItemV w' 0 w'.heap.size (if iright x then iitem x else iN 0) v) ∧ Below w.heap.size w w' := by
  have CW := Lib.hid (fun w' => write_any x.src hx.s w')
  have CR := Lib.hid (fun w' => iright_any x hx w')
  have HRR : Hid (right x.src = false → iright x = false) := Lib.hid (fun h => by unfold iright; rw [h]; rfl)
  have HS := Lib.hid (fun hr => itemOf_small x.src hx.s hr)
  have HX := Lib.hid (And.intro (And.intro hx.t0 hx.t1) (And.intro hx.q0 hx.q1))
  have HT := Lib.hid (show iitem x = iL (itemOf x.src) (iL (iN x.time) (iN x.seq)) from rfl)
  clear hx
  generalize iitem x = T at *
  generalize iright x = ir at *
  generalize right x.src = r at *
  generalize itemOf x.src = S at *
  obtain ⟨⟨i, n, s, h, d⟩, t, q⟩ := x
  have HB := Lib.hid (((Below.refl w.heap.size w).alloc (Nat.le_refl _) (.cells #[.bool i, .int .u64 n, .int .u64 s, .string h, .string d, .int .u64 t, .int .u64 q] 68)).alloc (by simp) (.cells #[.int .i64 0, .int .u64 0, .slice none 0 0, .slice none 0 0] 26))
  have HK := Lib.hid ((Blk.new w 68 #[.bool i, .int .u64 n, .int .u64 s, .string h, .string d, .int .u64 t, .int .u64 q]).alloc (.cells #[.int .i64 0, .int .u64 0, .slice none 0 0, .slice none 0 0] 26))
  have HZ := Lib.hid (Blk.new (w.alloc (.cells #[.bool i, .int .u64 n, .int .u64 s, .string h, .string d, .int .u64 t, .int .u64 q] 68)) 26 #[.int .i64 0, .int .u64 0, .slice none 0 0, .slice none 0 0])
  rw [World.size_alloc] at HZ
  go_enter Tryd.func53, Tryd.ntmps53
  go_upto_region 1 with (fail)
  generalize (w.alloc (.cells #[.bool i, .int .u64 n, .int .u64 s, .string h, .string d, .int .u64 t, .int .u64 q] 68)).alloc (.cells #[.int .i64 0, .int .u64 0, .slice none 0 0, .slice none 0 0] 26) = W at *
  obtain ⟨c0, c1, c2, c3, c4, c5, c6⟩ := cells7 HK.out
  go_wp2_with fail
  refine (CW.out _).mono ?_
  rintro e w1 ⟨v, rfl, HI, hb1⟩
  obtain ⟨kb, nb, Ab, lb, cb, Ab', lb', cb', hvb⟩ : ∃ kb nb Ab lb cb Ab' lb' cb', v = .agg #[.int .i64 kb, .int .u64 nb, .slice Ab lb cb, .slice Ab' lb' cb'] := by
    obtain ⟨_, _, _, _, e, _⟩ := HI.out.open_
    exact ⟨_, _, _, _, _, _, _, _, e⟩
  subst hvb
  have HV2 := Lib.hid (Blk.new w1 26 #[.int .i64 kb, .int .u64 nb, .slice Ab lb cb, .slice Ab' lb' cb'])
  have HB2 := Lib.hid ((below_next HB.out HB.out.size hb1).alloc (Nat.le_trans HB.out.size hb1.size) (.cells #[.int .i64 kb, .int .u64 nb, .slice Ab lb cb, .slice Ab' lb' cb'] 26))
  have HI2 := Lib.hid ((HI.out.alloc (Nat.le_refl _) (.cells #[.int .i64 kb, .int .u64 nb, .slice Ab lb cb, .slice Ab' lb' cb'] 26)).more (Nat.le_refl _) (show w1.heap.size ≤ (w1.alloc (.cells #[.int .i64 kb, .int .u64 nb, .slice Ab lb cb, .slice Ab' lb' cb'] 26)).heap.size by simp))
  have HK2 := Lib.hid ((HK.out.next hb1).alloc (.cells #[.int .i64 kb, .int .u64 nb, .slice Ab lb cb, .slice Ab' lb' cb'] 26))
  have HZ2 := Lib.hid ((HZ.out.next hb1).alloc (.cells #[.int .i64 kb, .int .u64 nb, .slice Ab lb cb, .slice Ab' lb' cb'] 26))
  have HNE := Lib.hid (show w1.heap.size ≠ w.heap.size + 1 from by have := HZ.out.lt; have := hb1.size; omega)
  clear HI hb1 HK HZ HB CW c0 c1 c2 c3 c4 c5 c6
  go_upto_region 2 with (fail)
  generalize w1.alloc (.cells #[.int .i64 kb, .int .u64 nb, .slice Ab lb cb, .slice Ab' lb' cb'] 26) = W2 at *
  cases r
  · have hir := HRR.out (by first | rfl | trivial)
    subst hir
    clear HRR HI2 HV2 HK2 CR HS HT
    simp only [Bool.false_eq_true, if_false]
    obtain ⟨z0, z1, z2, z3⟩ := cell4 HZ2.out
    obtain ⟨f0, f1, f2, f3⟩ := froz4 HZ2.out
    go_wp2_with fail
    have HZ9 := Lib.hid (set4_blk HZ2.out (.int .i64 0) (.int .u64 0) (.slice none 0 0) (.slice none 0 0))
    have HB9 := Lib.hid (set4_below HB2.out (Nat.le_succ _) (.int .i64 0) (.int .u64 0) (.slice none 0 0) (.slice none 0 0))
    clear z0 z1 z2 z3 f0 f1 f2 f3
    generalize hW9 : set4 W2 (w.heap.size + 1) (.int .i64 0) (.int .u64 0) (.slice none 0 0) (.slice none 0 0) = W9 at HZ9 HB9
    unfold set4 at hW9
    rw [hW9]
    obtain ⟨z0, z1, z2, z3⟩ := cell4 HZ9.out
    refine bodyPost_ret (v := .tuple #[.agg #[.int .i64 0, .int .u64 0, .slice none 0 0, .slice none 0 0], .int .i64 3]) (by simp [results, Tryd.results53, go_sem, *]) rfl ⟨_, rfl, Lib.hid (item_num _ _ _ 0 (by omega)), HB9.out⟩
  · simp only [if_true] at HI2
    simp only [if_true]
    obtain ⟨c0, c1, c2, c3, c4, c5, c6⟩ := cells7 HK2.out
    go_wp2_with fail
    refine (CR.out _).mono ?_
    rintro e w3 ⟨rfl, hb3⟩
    have HB3 := Lib.hid (below_next HB2.out HB2.out.size hb3)
    have HI3 := Lib.hid ((HI2.out.below hb3).more (Nat.le_refl _) hb3.size)
    have HK3 := Lib.hid (HK2.out.next hb3)
    have HZ3 := Lib.hid (HZ2.out.next hb3)
    have HV3 := Lib.hid (HV2.out.next hb3)
    clear hb3 HI2 HK2 HZ2 HV2 HB2 CR c0 c1 c2 c3 c4 c5 c6
    cases ir
    · clear HRR HI3 HV3 HK3 HS HT
      simp only [Bool.false_eq_true, if_false]
      obtain ⟨z0, z1, z2, z3⟩ := cell4 HZ3.out
      obtain ⟨f0, f1, f2, f3⟩ := froz4 HZ3.out
      go_wp2_with fail
      have HZ9 := Lib.hid (set4_blk HZ3.out (.int .i64 0) (.int .u64 0) (.slice none 0 0) (.slice none 0 0))
      have HB9 := Lib.hid (set4_below HB3.out (Nat.le_succ _) (.int .i64 0) (.int .u64 0) (.slice none 0 0) (.slice none 0 0))
      clear z0 z1 z2 z3 f0 f1 f2 f3
      generalize hW9 : set4 w3 (w.heap.size + 1) (.int .i64 0) (.int .u64 0) (.slice none 0 0) (.slice none 0 0) = W9 at HZ9 HB9
      unfold set4 at hW9
      rw [hW9]
      obtain ⟨z0, z1, z2, z3⟩ := cell4 HZ9.out
      refine bodyPost_ret (v := .tuple #[.agg #[.int .i64 0, .int .u64 0, .slice none 0 0, .slice none 0 0], .int .i64 3]) (by simp [results, Tryd.results53, go_sem, *]) rfl ⟨_, rfl, Lib.hid (item_num _ _ _ 0 (by omega)), HB9.out⟩
    · simp only [if_true]
      have HS' := HS.out (by first | rfl | trivial)
      have hx := HX.out
      have CNt := Lib.hid (fun W => CbCopy.num_any t W hx.1.1 hx.1.2)
      have CNq := Lib.hid (fun W => CbCopy.num_any q W hx.2.1 hx.2.2)
      have CL1 := Lib.hid (fun W => list2 (iN t) (iN q) _ _ _ _ _ _ _ _ W (item_num _ _ _ t hx.1) (item_num _ _ _ q hx.2) (by simp [CbList.wides, CbList.wide]) (by simp [sizes, size]) (by simp [deeps, deep]))
      have CL2 : Hid (∀ (W : World) (A : Option Addr), ItemV W 0 W.heap.size (iL (iN t) (iN q)) (.agg #[.int .i64 4, .int .u64 0, .slice none 0 0, .slice A 2 2]) → ItemV W 0 W.heap.size S (.agg #[.int .i64 kb, .int .u64 nb, .slice Ab lb cb, .slice Ab' lb' cb']) → Calls Tryd.prog 33 #[.slice (some ⟨W.heap.size, 0, none⟩) 2 2] (W.alloc (.cells #[.int .i64 kb, .int .u64 nb, .slice Ab lb cb, .slice Ab' lb' cb', .int .i64 4, .int .u64 0, .slice none 0 0, .slice A 2 2] 26)) fun e w' =>
          ∃ A', e = .returned (.agg #[.int .i64 4, .int .u64 0, .slice none 0 0, .slice A' 2 2]) ∧ Hid (ItemV w' W.heap.size w'.heap.size T (.agg #[.int .i64 4, .int .u64 0, .slice none 0 0, .slice A' 2 2])) ∧ Below W.heap.size W w') := Lib.hid (fun W A hI hS => by
        rw [HT.out]
        exact list2 S (iL (iN t) (iN q)) _ _ _ _ _ _ _ _ W hS hI (by simp [CbList.wides, CbList.wide]; omega) (by simp [sizes, size]; omega) (by simp [deeps, deep]; omega))
      have KC := Lib.hid (fun (w' : World) (hW : Below w3.heap.size w3 w') => show (w'.cell? ⟨w.heap.size, 5, none⟩ = some (.int .u64 t) ∧ w'.cell? ⟨w.heap.size, 6, none⟩ = some (.int .u64 q)) ∧ (w'.cell? ⟨w1.heap.size, 0, none⟩ = some (.int .i64 kb) ∧ w'.cell? ⟨w1.heap.size, 1, none⟩ = some (.int .u64 nb) ∧ w'.cell? ⟨w1.heap.size, 2, none⟩ = some (.slice Ab lb cb) ∧ w'.cell? ⟨w1.heap.size, 3, none⟩ = some (.slice Ab' lb' cb')) from
        ⟨⟨(cells7 (HK3.out.next hW)).2.2.2.2.2.1, (cells7 (HK3.out.next hW)).2.2.2.2.2.2⟩, cell4 (HV3.out.next hW)⟩)
      have hne1 : w.heap.size ≠ w.heap.size + 1 := by omega
      have hne2 : w1.heap.size ≠ w.heap.size + 1 := HNE.out
      have KF := Lib.hid (fun (w' : World) (hW : Below w3.heap.size w3 w') (a b c d : Value) => show ((set4 w' (w.heap.size + 1) a b c d).cell? ⟨w.heap.size, 5, none⟩ = some (.int .u64 t) ∧ (set4 w' (w.heap.size + 1) a b c d).cell? ⟨w.heap.size, 6, none⟩ = some (.int .u64 q)) ∧ ((set4 w' (w.heap.size + 1) a b c d).cell? ⟨w1.heap.size, 0, none⟩ = some (.int .i64 kb) ∧ (set4 w' (w.heap.size + 1) a b c d).cell? ⟨w1.heap.size, 1, none⟩ = some (.int .u64 nb) ∧ (set4 w' (w.heap.size + 1) a b c d).cell? ⟨w1.heap.size, 2, none⟩ = some (.slice Ab lb cb) ∧ (set4 w' (w.heap.size + 1) a b c d).cell? ⟨w1.heap.size, 3, none⟩ = some (.slice Ab' lb' cb')) from
        ⟨⟨(cells7 (set4_far (HK3.out.next hW) hne1 a b c d)).2.2.2.2.2.1, (cells7 (set4_far (HK3.out.next hW) hne1 a b c d)).2.2.2.2.2.2⟩, cell4 (set4_far (HV3.out.next hW) hne2 a b c d)⟩)
      have KZ := Lib.hid (fun (w' : World) (hW : Below w3.heap.size w3 w') => And.intro (cell4 (HZ3.out.next hW)) (froz4 (HZ3.out.next hW)))
      have HBd := Lib.hid ((Below.refl w3.heap.size w3).drew)
      clear hx HS' hne1 hne2 HRR
      go_wp2_with fail
      go_region_held3 (fun w' => (w'.cell? ⟨w.heap.size, 5, none⟩ = some (.int .u64 t) ∧ w'.cell? ⟨w.heap.size, 6, none⟩ = some (.int .u64 q)) ∧ (w'.cell? ⟨w1.heap.size, 0, none⟩ = some (.int .i64 kb) ∧ w'.cell? ⟨w1.heap.size, 1, none⟩ = some (.int .u64 nb) ∧ w'.cell? ⟨w1.heap.size, 2, none⟩ = some (.slice Ab lb cb) ∧ w'.cell? ⟨w1.heap.size, 3, none⟩ = some (.slice Ab' lb' cb')))
        (first | with_reducible exact KC.out _ HBd.out | with_reducible exact KC.out _ HBA.out | with_reducible exact KC.out _ HBB.out | with_reducible exact KC.out _ (HBB.out.alloc HBB.out.size _) | with_reducible exact KC.out _ HBC.out | with_reducible exact KC.out _ (HBC.out.alloc HBC.out.size _) | with_reducible exact KC.out _ HBD.out | with_reducible exact KF.out _ HBD.out _ _ _ _ | fail)
        (first | (go_at_call 33; (with_reducible refine (CL2.out _ _ HIC.out ((HI3.out.below HBC.out).more (Nat.le_refl _) HBC.out.size)).mono ?_); rintro e wD ⟨AD, rfl, HID, hbD⟩; have HBD := Lib.hid (below_next HBC.out HBC.out.size hbD); obtain ⟨⟨z0, z1, z2, z3⟩, f0, f1, f2, f3⟩ := KZ.out _ HBD.out; clear hbD) | (go_at_call 33; (with_reducible refine (CL1.out _).mono ?_); rintro e wC ⟨AC, rfl, HIC0, hbC⟩; have HBC := Lib.hid (below_next HBB.out HBB.out.size hbC); have HIC := Lib.hid (HIC0.out.more (Nat.zero_le _) (Nat.le_refl _)); clear hbC HIC0) | (go_at_call 29; (with_reducible refine (CNq.out _).mono ?_); rintro e wB ⟨rfl, hbB⟩; have HBB := Lib.hid (below_next HBA.out HBA.out.size hbB); clear hbB) | (go_at_call 29; (with_reducible refine (CNt.out _).mono ?_); rintro e wA ⟨rfl, hbA⟩; have HBA := Lib.hid (below_next HBd.out HBd.out.size hbA); clear hbA) | fail)
      have HBE := Lib.hid (below_next HB3.out HB3.out.size HBD.out)
      have HZE := Lib.hid (HZ3.out.next HBD.out)
      have HLT := Lib.hid (show w.heap.size + 1 < w3.heap.size from HZ3.out.lt)
      have HF1 := Lib.hid (set4_blk HZE.out (.int .i64 4) (.int .u64 0) (.slice none 0 0) (.slice AD 2 2))
      have HF2 := Lib.hid (set4_below HBE.out (Nat.le_succ _) (.int .i64 4) (.int .u64 0) (.slice none 0 0) (.slice AD 2 2))
      have HF3 : Hid (ItemV (set4 wD (w.heap.size + 1) (.int .i64 4) (.int .u64 0) (.slice none 0 0) (.slice AD 2 2)) 0 (set4 wD (w.heap.size + 1) (.int .i64 4) (.int .u64 0) (.slice none 0 0) (.slice AD 2 2)).heap.size T (.agg #[.int .i64 4, .int .u64 0, .slice none 0 0, .slice AD 2 2])) := Lib.hid (by
        have hlt := HLT.out
        have hz := HBC.out.size
        rw [set4_size]
        exact (HID.out.set4 (.inl (by omega)) _ _ _ _).more (Nat.zero_le _) (Nat.le_refl _))
      clear z0 z1 z2 z3 f0 f1 f2 f3 HID HZE HLT HBA HBB HBC HBD KC KF KZ HIC
      generalize hW9 : set4 wD (w.heap.size + 1) (.int .i64 4) (.int .u64 0) (.slice none 0 0) (.slice AD 2 2) = W9 at HF1 HF2 HF3
      unfold set4 at hW9
      rw [hW9]
      go_wp2_with fail
      obtain ⟨z0, z1, z2, z3⟩ := cell4 HF1.out
      refine bodyPost_ret (v := .tuple #[.agg #[.int .i64 4, .int .u64 0, .slice none 0 0, .slice AD 2 2], .int .i64 0]) (by simp [results, Tryd.results53, go_sem, *]) rfl ⟨_, rfl, HF3, HF2.out⟩
end Go.Proofs.YthknkdphofjmhaaDoor.Eid
/- Seven cells written; the contract of Great of layer 5's statements. -/
namespace Go.Proofs.YthknkdphofjmhaaDoor.Eid
open Go.RowKit Wd Cb

/-- Seven cells written one behind the other. -/
abbrev set7 (w : World) (g : Nat) (a b c d e f k : Value) : World := (((((((w.setCell ⟨g, 0, none⟩ a).setCell ⟨g, 1, none⟩ b).setCell ⟨g, 2, none⟩ c).setCell ⟨g, 3, none⟩ d).setCell ⟨g, 4, none⟩ e).setCell ⟨g, 5, none⟩ f).setCell ⟨g, 6, none⟩ k)
theorem set7_blk {w : World} {g : Nat} {t : TypeId} {a0 b0 c0 d0 e0 f0 k0 : Value} (h : Blk w g t #[a0, b0, c0, d0, e0, f0, k0]) (a b c d e f k : Value) : Blk (set7 w g a b c d e f k) g t #[a, b, c, d, e, f, k] := by
  simpa using ((((((h.set_ 0 a).set_ 1 b).set_ 2 c).set_ 3 d).set_ 4 e).set_ 5 f).set_ 6 k
theorem set7_below {B g : Nat} {w0 w : World} (hb : Below B w0 w) (hB : B ≤ g) (a b c d e f k : Value) : Below B w0 (set7 w g a b c d e f k) :=
  ((((((hb.setCell (p := ⟨g, 0, none⟩) hB a).setCell (p := ⟨g, 1, none⟩) hB b).setCell (p := ⟨g, 2, none⟩) hB c).setCell (p := ⟨g, 3, none⟩) hB d).setCell (p := ⟨g, 4, none⟩) hB e).setCell (p := ⟨g, 5, none⟩) hB f).setCell (p := ⟨g, 6, none⟩) hB k
theorem set7_far {w : World} {g k : Nat} {t : TypeId} {cs : Array Value} (h : Blk w g t cs) (hn : g ≠ k) (a b c d e f l : Value) : Blk (set7 w k a b c d e f l) g t cs :=
  ((((((h.far (p := ⟨k, 0, none⟩) hn a).far (p := ⟨k, 1, none⟩) hn b).far (p := ⟨k, 2, none⟩) hn c).far (p := ⟨k, 3, none⟩) hn d).far (p := ⟨k, 4, none⟩) hn e).far (p := ⟨k, 5, none⟩) hn f).far (p := ⟨k, 6, none⟩) hn l
theorem set7_size (w : World) (g : Nat) (a b c d e f k : Value) : (set7 w g a b c d e f k).heap.size = w.heap.size := by simp [World.setCell]
theorem froz7 {w : World} {g : Nat} {t : TypeId} {cs : Array Value} (h : Blk w g t cs) : w.frozen? ⟨g, 0, none⟩ = false ∧ w.frozen? ⟨g, 1, none⟩ = false ∧ w.frozen? ⟨g, 2, none⟩ = false ∧ w.frozen? ⟨g, 3, none⟩ = false ∧ w.frozen? ⟨g, 4, none⟩ = false ∧ w.frozen? ⟨g, 5, none⟩ = false ∧ w.frozen? ⟨g, 6, none⟩ = false :=
  ⟨h.frozen 0, h.frozen 1, h.frozen 2, h.frozen 3, h.frozen 4, h.frozen 5, h.frozen 6⟩
abbrev zero7 : Array Value := #[.bool false, .int .u64 0, .int .u64 0, .string ⟨#[]⟩, .string ⟨#[]⟩, .int .u64 0, .int .u64 0]


end Go.Proofs.YthknkdphofjmhaaDoor.Eid
