/- The contract of eid.Write. -/
import Derived.Test.YthknkdphofjmhaaDoorZg3
import Derived.Test.YthknkdphofjmhaaDoorCbList
import Derived.Test.YthknkdphofjmhaaDoorZg4
namespace Go.Proofs.YthknkdphofjmhaaDoor.Eid
open Go.RowKit Wd Cb

theorem cell4 {w : World} {g : Nat} {t : TypeId} {a b c d : Value} (h : Blk w g t #[a, b, c, d]) : w.cell? ⟨g, 0, none⟩ = some a ∧ w.cell? ⟨g, 1, none⟩ = some b ∧ w.cell? ⟨g, 2, none⟩ = some c ∧ w.cell? ⟨g, 3, none⟩ = some d :=
  ⟨by simpa using h.cell 0, by simpa using h.cell 1, by simpa using h.cell 2, by simpa using h.cell 3⟩
theorem froz4 {w : World} {g : Nat} {t : TypeId} {a b c d : Value} (h : Blk w g t #[a, b, c, d]) : w.frozen? ⟨g, 0, none⟩ = false ∧ w.frozen? ⟨g, 1, none⟩ = false ∧ w.frozen? ⟨g, 2, none⟩ = false ∧ w.frozen? ⟨g, 3, none⟩ = false :=
  ⟨h.frozen 0, h.frozen 1, h.frozen 2, h.frozen 3⟩
/-- Four cells written one behind the other. -/
abbrev set4 (w : World) (g : Nat) (a b c d : Value) : World := (((w.setCell ⟨g, 0, none⟩ a).setCell ⟨g, 1, none⟩ b).setCell ⟨g, 2, none⟩ c).setCell ⟨g, 3, none⟩ d
theorem set4_blk {w : World} {g : Nat} {t : TypeId} {a0 b0 c0 d0 : Value} (h : Blk w g t #[a0, b0, c0, d0]) (a b c d : Value) : Blk (set4 w g a b c d) g t #[a, b, c, d] := by
  simpa using (((h.set_ 0 a).set_ 1 b).set_ 2 c).set_ 3 d
theorem set4_below {B g : Nat} {w0 w : World} (hb : Below B w0 w) (hB : B ≤ g) (a b c d : Value) : Below B w0 (set4 w g a b c d) :=
  (((hb.setCell (p := ⟨g, 0, none⟩) hB a).setCell (p := ⟨g, 1, none⟩) hB b).setCell (p := ⟨g, 2, none⟩) hB c).setCell (p := ⟨g, 3, none⟩) hB d
theorem set4_size (w : World) (g : Nat) (a b c d : Value) : (set4 w g a b c d).heap.size = w.heap.size := by simp [World.setCell]

/-- A number's item. -/
abbrev iN (n : Int) : Itm := .mk 0 n [] []
theorem item_num (w : World) (lo hi : Nat) (n : Int) (h : 0 ≤ n ∧ n ≤ 18446744073709551615) : ItemV w lo hi (iN n) (.agg #[.int .i64 0, .int .u64 n, .slice none 0 0, .slice none 0 0]) :=
  ItemV.mk (k := 0) (b := []) (l := []) (by omega) h (by intro x hx; cases hx) (Nat.le_refl _) (by simp) .nil (Nat.le_refl _) (by simp) .nil
theorem item_text {w : World} {lo hi : Nat} {A : Option Addr} {s : ByteArray} (hs : Seg w lo hi A (u8s (CbCopy.nums s))) (hl : (CbCopy.nums s).length ≤ maxLen) : ItemV w lo hi (.mk 3 0 (CbCopy.nums s) []) (.agg #[.int .i64 3, .int .u64 0, .slice A (CbCopy.nums s).length (CbCopy.nums s).length, .slice none 0 0]) :=
  ItemV.mk (k := 3) (l := []) (by omega) (by omega) (CbCopy.nums_bts s) (Nat.le_refl _) hl hs (Nat.le_refl _) (by simp) .nil

theorem items2 {W : World} {g hi : Nat} {x y : Itm} {a0 a1 a2 a3 b0 b1 b2 b3 : Value} (hx : ItemV W 0 hi x (.agg #[a0, a1, a2, a3])) (hy : ItemV W 0 hi y (.agg #[b0, b1, b2, b3]))
    (hk : Blk W g 26 #[a0, a1, a2, a3, b0, b1, b2, b3]) (hg : g < hi) : ItemsV W 0 hi [x, y] (some ⟨g, 0, none⟩) := by
  obtain ⟨cs, e1, r1⟩ := hx
  obtain ⟨ds, e2, r2⟩ := hy
  obtain rfl : cs = [a0, a1, a2, a3] := by simpa using (congrArg (fun v => match v with | Value.agg c => c.toList | _ => []) e1).symm
  obtain rfl : ds = [b0, b1, b2, b3] := by simpa using (congrArg (fun v => match v with | Value.agg c => c.toList | _ => []) e2).symm
  refine ⟨[a0, a1, a2, a3, b0, b1, b2, b3], .inr ⟨g, 0, rfl, Nat.zero_le _, hg, fun j _ => ?_⟩, ?_⟩
  · rw [Nat.zero_add]
    simpa using hk.cell j
  · exact Reps.append (l := [x]) (m := [y]) (Reps.one r1) (Reps.one r2)

/-- A list of two. -/
abbrev iL (x y : Itm) : Itm := .mk 4 0 [] [x, y]
theorem list2 (x y : Itm) (a0 a1 a2 a3 b0 b1 b2 b3 : Value) (W : World) (hx : ItemV W 0 W.heap.size x (.agg #[a0, a1, a2, a3])) (hy : ItemV W 0 W.heap.size y (.agg #[b0, b1, b2, b3]))
    (hw : CbList.wides [x, y] ≤ 100000000000000) (hs : sizes [x, y] ≤ 2147483647) (hd : deeps [x, y] ≤ 65537) :
    Calls Tryd.prog 33 #[.slice (some ⟨W.heap.size, 0, none⟩) 2 2] (W.alloc (.cells #[a0, a1, a2, a3, b0, b1, b2, b3] 26)) fun e w' =>
      ∃ A', e = .returned (.agg #[.int .i64 4, .int .u64 0, .slice none 0 0, .slice A' 2 2]) ∧ Hid (ItemV w' W.heap.size w'.heap.size (iL x y) (.agg #[.int .i64 4, .int .u64 0, .slice none 0 0, .slice A' 2 2])) ∧ Below W.heap.size W w' := by
  have hb := (Below.refl W.heap.size W).alloc (Nat.le_refl _) (.cells #[a0, a1, a2, a3, b0, b1, b2, b3] 26)
  have h := CbList.list_any [x, y] (some ⟨W.heap.size, 0, none⟩) (W.heap.size + 1) 2 (W.alloc (.cells #[a0, a1, a2, a3, b0, b1, b2, b3] 26))
    (items2 ((hx.below hb).more (Nat.le_refl _) (Nat.le_succ _)) ((hy.below hb).more (Nat.le_refl _) (Nat.le_succ _)) (Blk.new W _ _) (Nat.lt_succ_self _)) (by simp) (by simp) (by decide) hw hs hd
  refine h.mono ?_
  rintro e w' ⟨A', rfl, HI, hb2⟩
  have hz := hb2.size
  rw [World.size_alloc] at hz
  have hi := HI.out
  rw [World.size_alloc] at hi
  exact ⟨A', rfl, Lib.hid (ItemV.mk (k := 4) (b := []) (l := [x, y]) (by omega) (by omega) (by intro q hq; cases hq) (Nat.le_refl _) (by simp) .nil (Nat.le_refl _) (by decide) (hi.more (by omega) (Nat.le_refl _))), hb.trans (hb2.mono (by simp))⟩

/-- A name's item. -/
def itemOf (x : Nm) : Itm := if kd x = 0 then iL (iN 1) (iN 0) else if kd x = 1 then iL (iN 2) (iL (iN x.node) (iN x.service)) else iL (iN 1) (.mk 3 0 (CbCopy.nums (pathOf x.host x.demux)) [])

set_option maxRecDepth 100000 in
set_option maxHeartbeats 4000000 in
theorem write_any (x : Nm) (hx : x.ok) (w : World) : Calls Tryd.prog 44 #[x.val] w fun e w' => ∃ v, e = .returned (.tuple #[v, .int .i64 (if right x then 0 else 3)]) ∧ Hid (ItemV w' 0 w'.heap.size (if right x then itemOf x else iN 0) v) ∧ Below w.heap.size w w' := by
  have CK := Lib.hid (fun w' => kind_any x w')
  have CR := Lib.hid (fun w' => right_any x hx w')
  have CP := Lib.hid (fun h1 h2 w' => path_any x h1 h2 w')
  have HT := Lib.hid (show itemOf x = if kd x = 0 then iL (iN 1) (iN 0) else if kd x = 1 then iL (iN 2) (iL (iN x.node) (iN x.service)) else iL (iN 1) (.mk 3 0 (CbCopy.nums (pathOf x.host x.demux)) []) from rfl)
  have HRT := Lib.hid (right_texts x)
  have HPS := Lib.hid (path_size x.host x.demux)
  have HX := Lib.hid hx
  clear hx
  obtain ⟨i, n, s, h, d⟩ := x
  have HB := Lib.hid (((Below.refl w.heap.size w).alloc (Nat.le_refl _) (.cells #[.bool i, .int .u64 n, .int .u64 s, .string h, .string d] 48)).alloc (by simp) (.cells #[.int .i64 0, .int .u64 0, .slice none 0 0, .slice none 0 0] 26))
  have HK := Lib.hid ((Blk.new w 48 #[.bool i, .int .u64 n, .int .u64 s, .string h, .string d]).alloc (.cells #[.int .i64 0, .int .u64 0, .slice none 0 0, .slice none 0 0] 26))
  have HZ := Lib.hid (Blk.new (w.alloc (.cells #[.bool i, .int .u64 n, .int .u64 s, .string h, .string d] 48)) 26 #[.int .i64 0, .int .u64 0, .slice none 0 0, .slice none 0 0])
  rw [World.size_alloc] at HZ
  generalize right ⟨i, n, s, h, d⟩ = r at *
  generalize itemOf ⟨i, n, s, h, d⟩ = T at *
  generalize kd ⟨i, n, s, h, d⟩ = k at *
  go_enter Tryd.func44, Tryd.ntmps44
  go_wp2_with fail
  refine (CR.out _).mono ?_
  rintro e w1 ⟨rfl, hb1⟩
  have HB1 := Lib.hid (below_next HB.out (by simp; omega) hb1)
  have HK1 := Lib.hid (HK.out.next hb1)
  have HZ1 := Lib.hid (HZ.out.next hb1)
  clear hb1 HK HB HZ
  cases r
  · obtain ⟨z0, z1, z2, z3⟩ := cell4 HZ1.out
    obtain ⟨f0, f1, f2, f3⟩ := froz4 HZ1.out
    simp only [Bool.false_eq_true, if_false]
    go_wp2_with fail
    have HZ2 := Lib.hid (set4_blk HZ1.out (.int .i64 0) (.int .u64 0) (.slice none 0 0) (.slice none 0 0))
    have HB2 := Lib.hid (set4_below HB1.out (Nat.le_succ _) (.int .i64 0) (.int .u64 0) (.slice none 0 0) (.slice none 0 0))
    clear z0 z1 z2 z3 f0 f1 f2 f3
    generalize hW2 : set4 w1 (w.heap.size + 1) (.int .i64 0) (.int .u64 0) (.slice none 0 0) (.slice none 0 0) = W2 at HZ2 HB2
    unfold set4 at hW2
    rw [hW2]
    obtain ⟨z0, z1, z2, z3⟩ := cell4 HZ2.out
    refine bodyPost_ret (v := .tuple #[.agg #[.int .i64 0, .int .u64 0, .slice none 0 0, .slice none 0 0], .int .i64 3]) (by simp [results, Tryd.results44, go_sem, *]) rfl ⟨_, rfl, Lib.hid (item_num _ _ _ 0 (by omega)), HB2.out⟩
  · have HRT2 := Lib.hid (HRT.out rfl)
    clear HRT
    simp only [if_true]
    obtain ⟨c0, c1, c2, c3, c4⟩ := cells5 HK1.out
    go_wp2_with fail
    refine (CK.out _).mono ?_
    rintro e w2 ⟨rfl, hb2⟩
    have HB2 := Lib.hid (below_next HB1.out HB1.out.size hb2)
    have HK2 := Lib.hid (HK1.out.next hb2)
    have HZ2 := Lib.hid (HZ1.out.next hb2)
    clear c0 c1 c2 c3 c4 hb2 HK1 HB1 HZ1
    have Fin : Hid (∀ (w6 : World) (A : Option Addr), Below w2.heap.size w2 w6 → Hid (ItemV w6 w2.heap.size w6.heap.size T (.agg #[.int .i64 4, .int .u64 0, .slice none 0 0, .slice A 2 2])) →
        (Blk w6 (w.heap.size + 1) 26 #[.int .i64 0, .int .u64 0, .slice none 0 0, .slice none 0 0]) ∧
        (Blk (set4 w6 (w.heap.size + 1) (.int .i64 4) (.int .u64 0) (.slice none 0 0) (.slice A 2 2)) (w.heap.size + 1) 26 #[.int .i64 4, .int .u64 0, .slice none 0 0, .slice A 2 2]) ∧
        Hid (ItemV (set4 w6 (w.heap.size + 1) (.int .i64 4) (.int .u64 0) (.slice none 0 0) (.slice A 2 2)) 0 (set4 w6 (w.heap.size + 1) (.int .i64 4) (.int .u64 0) (.slice none 0 0) (.slice A 2 2)).heap.size T (.agg #[.int .i64 4, .int .u64 0, .slice none 0 0, .slice A 2 2])) ∧
        Below w.heap.size w (set4 w6 (w.heap.size + 1) (.int .i64 4) (.int .u64 0) (.slice none 0 0) (.slice A 2 2))) := Lib.hid (fun w6 A hb6 hi6 => by
      have hk6 := HZ2.out.next hb6
      have hz := HZ2.out.lt
      refine ⟨hk6, set4_blk hk6 _ _ _ _, Lib.hid ?_, set4_below (below_next HB2.out HB2.out.size hb6) (Nat.le_succ _) _ _ _ _⟩
      rw [set4_size]
      exact (hi6.out.set4 (.inl hz) _ _ _ _).more (Nat.zero_le _) (Nat.le_refl _))
    by_cases k0 : k = 0
    · subst k0
      have HT2 := Lib.hid (show T = iL (iN 1) (iN 0) by rw [HT.out]; rfl)
      go_wp2_with fail
      refine (CbCopy.num_any 1 _ (by omega) (by omega)).mono ?_
      rintro e w3 ⟨rfl, hb3⟩
      have HB3 := Lib.hid hb3
      clear hb3
      go_wp2_with fail
      refine (CbCopy.num_any 0 _ (by omega) (by omega)).mono ?_
      rintro e w4 ⟨rfl, hb4⟩
      have HB4 := Lib.hid (below_next HB3.out HB3.out.size hb4)
      clear hb4
      go_wp2_with fail
      refine (list2 (iN 1) (iN 0) _ _ _ _ _ _ _ _ w4 (item_num _ _ _ 1 (by omega)) (item_num _ _ _ 0 (by omega)) (by decide) (by decide) (by decide)).mono ?_
      rintro e w6 ⟨A, rfl, HI, hb6⟩
      rw [← HT2.out] at HI
      obtain ⟨hz, F2, F3, F4⟩ := Fin.out w6 A (below_next HB4.out HB4.out.size hb6) (Lib.hid (HI.out.more HB4.out.size (Nat.le_refl _)))
      have G2 := Lib.hid F2
      have G4 := Lib.hid F4
      obtain ⟨z0, z1, z2, z3⟩ := cell4 hz
      obtain ⟨f0, f1, f2, f3⟩ := froz4 hz
      clear F2 F4 hz hb6 HI HB3 HB4
      go_wp2_with fail
      clear z0 z1 z2 z3 f0 f1 f2 f3
      generalize hW2 : set4 w6 (w.heap.size + 1) (.int .i64 4) (.int .u64 0) (.slice none 0 0) (.slice A 2 2) = W2 at G2 F3 G4
      unfold set4 at hW2
      rw [hW2]
      obtain ⟨z0, z1, z2, z3⟩ := cell4 G2.out
      refine bodyPost_ret (v := .tuple #[.agg #[.int .i64 4, .int .u64 0, .slice none 0 0, .slice A 2 2], .int .i64 0]) (by simp [results, Tryd.results44, go_sem, *]) rfl ⟨_, rfl, F3, G4.out⟩
    · have d0 : (k == 0) = false := by simpa using k0
      have KC := Lib.hid (fun (w' : World) (hW : Below w2.heap.size w2 w') => cells5 (HK2.out.below hW HK2.out.lt))
      have KF := Lib.hid (fun (w' : World) (hW : Below w2.heap.size w2 w') (a b c d : Value) => show _ from cells5 (((((HK2.out.below hW HK2.out.lt).far (p := ⟨w.heap.size + 1, 0, none⟩) (by simp) a).far (p := ⟨w.heap.size + 1, 1, none⟩) (by simp) b).far (p := ⟨w.heap.size + 1, 2, none⟩) (by simp) c).far (p := ⟨w.heap.size + 1, 3, none⟩) (by simp) d))
      have KZ := Lib.hid (fun (w' : World) (hW : Below w2.heap.size w2 w') => And.intro (cell4 (HZ2.out.below hW HZ2.out.lt)) (froz4 (HZ2.out.below hW HZ2.out.lt)))
      have HBd := Lib.hid ((Below.refl w2.heap.size w2).drew)
      by_cases k1 : k = 1
      · have HT2 := Lib.hid (show T = iL (iN 2) (iL (iN n) (iN s)) by rw [HT.out, if_neg k0, if_pos k1])
        subst k1
        have hx := HX.out
        have CN2 := Lib.hid (fun W => CbCopy.num_any 2 W (by omega) (by omega))
        have CNn := Lib.hid (fun W => CbCopy.num_any n W hx.n0 hx.n1)
        have CNs := Lib.hid (fun W => CbCopy.num_any s W hx.s0 hx.s1)
        have CL1 := Lib.hid (fun W => list2 (iN n) (iN s) _ _ _ _ _ _ _ _ W (item_num _ _ _ n ⟨hx.n0, hx.n1⟩) (item_num _ _ _ s ⟨hx.s0, hx.s1⟩) (by simp [CbList.wides, CbList.wide]) (by simp [sizes, size]) (by simp [deeps, deep]))
        have CL2 : Hid (∀ (W : World) (A : Option Addr), ItemV W 0 W.heap.size (iL (iN n) (iN s)) (.agg #[.int .i64 4, .int .u64 0, .slice none 0 0, .slice A 2 2]) → Calls Tryd.prog 33 #[.slice (some ⟨W.heap.size, 0, none⟩) 2 2] (W.alloc (.cells #[.int .i64 0, .int .u64 2, .slice none 0 0, .slice none 0 0, .int .i64 4, .int .u64 0, .slice none 0 0, .slice A 2 2] 26)) fun e w' =>
            ∃ A', e = .returned (.agg #[.int .i64 4, .int .u64 0, .slice none 0 0, .slice A' 2 2]) ∧ Hid (ItemV w' W.heap.size w'.heap.size T (.agg #[.int .i64 4, .int .u64 0, .slice none 0 0, .slice A' 2 2])) ∧ Below W.heap.size W w') := Lib.hid (fun W A hI => by
          rw [HT2.out]
          exact list2 (iN 2) (iL (iN n) (iN s)) _ _ _ _ _ _ _ _ W (item_num _ _ _ 2 (by omega)) hI (by simp [CbList.wides, CbList.wide]) (by simp [sizes, size]) (by simp [deeps, deep]))
        clear hx k0
        go_wp2_with fail
        go_region_held3 (fun w' => w'.cell? ⟨w.heap.size, 0, none⟩ = some (.bool i) ∧ w'.cell? ⟨w.heap.size, 1, none⟩ = some (.int .u64 n) ∧ w'.cell? ⟨w.heap.size, 2, none⟩ = some (.int .u64 s) ∧ w'.cell? ⟨w.heap.size, 3, none⟩ = some (.string h) ∧ w'.cell? ⟨w.heap.size, 4, none⟩ = some (.string d))
          (first | with_reducible exact KC.out _ HBd.out | with_reducible exact KC.out _ HBA.out | with_reducible exact KC.out _ HBB.out | with_reducible exact KC.out _ HBC.out | with_reducible exact KC.out _ (HBC.out.alloc HBC.out.size _) | with_reducible exact KC.out _ HBD.out | with_reducible exact KC.out _ (HBD.out.alloc HBD.out.size _) | with_reducible exact KC.out _ HBE.out | with_reducible exact KF.out _ HBE.out _ _ _ _ | fail)
          (first | (go_at_call 33; (with_reducible refine (CL2.out _ _ HID.out).mono ?_); rintro e wE ⟨AE, rfl, HIE0, hbE⟩; have HBE := Lib.hid (below_next HBD.out HBD.out.size hbE); have HIE := Lib.hid (HIE0.out.more HBD.out.size (Nat.le_refl _)); obtain ⟨⟨z0, z1, z2, z3⟩, f0, f1, f2, f3⟩ := KZ.out _ HBE.out; clear hbE HIE0) | (go_at_call 33; (with_reducible refine (CL1.out _).mono ?_); rintro e wD ⟨AD, rfl, HID0, hbD⟩; have HBD := Lib.hid (below_next HBC.out HBC.out.size hbD); have HID := Lib.hid (HID0.out.more (Nat.zero_le _) (Nat.le_refl _)); clear hbD HID0) | (go_at_call 29; (with_reducible refine (CNs.out _).mono ?_); rintro e wC ⟨rfl, hbC⟩; have HBC := Lib.hid (below_next HBB.out HBB.out.size hbC); clear hbC) | (go_at_call 29; (with_reducible refine (CNn.out _).mono ?_); rintro e wB ⟨rfl, hbB⟩; have HBB := Lib.hid (below_next HBA.out HBA.out.size hbB); clear hbB) | (go_at_call 29; (with_reducible refine (CN2.out _).mono ?_); rintro e wA ⟨rfl, hbA⟩; have HBA := Lib.hid (below_next HBd.out HBd.out.size hbA); clear hbA) | fail)
        obtain ⟨hz, F2, F3, F4⟩ := Fin.out wE AE HBE.out HIE
        have G2 := Lib.hid F2
        have G4 := Lib.hid F4
        clear F2 F4 hz HIE HBE HBA HBB HBC HBD KC KF KZ
        clear z0 z1 z2 z3 f0 f1 f2 f3
        go_wp2_with fail
        generalize hW2 : set4 wE (w.heap.size + 1) (.int .i64 4) (.int .u64 0) (.slice none 0 0) (.slice AE 2 2) = W2 at G2 F3 G4
        unfold set4 at hW2
        rw [hW2]
        obtain ⟨z0, z1, z2, z3⟩ := cell4 G2.out
        refine bodyPost_ret (v := .tuple #[.agg #[.int .i64 4, .int .u64 0, .slice none 0 0, .slice AE 2 2], .int .i64 0]) (by simp [results, Tryd.results44, go_sem, *]) rfl ⟨_, rfl, F3, G4.out⟩
      · have d1 : (k == 1) = false := by simpa using k1
        have HT2 := Lib.hid (show T = iL (iN 1) (.mk 3 0 (CbCopy.nums (pathOf h d)) []) by rw [HT.out, if_neg k0, if_neg k1])
        obtain ⟨q1, q2⟩ := HRT2.out k0 k1
        have e := HPS.out
        have q1' : h.size ≤ 1000 := q1
        have q2' : d.size ≤ 1000 := q2
        have e' : (pathOf h d).size = 2 + h.size + 1 + d.size := e
        have hps : (pathOf h d).size ≤ 3000 := by omega
        have hpl : (CbCopy.nums (pathOf h d)).length ≤ 3000 := by rw [CbCopy.nums_length]; exact hps
        have CN1 := Lib.hid (fun W => CbCopy.num_any 1 W (by omega) (by omega))
        have CPW : Hid (∀ W, Calls Tryd.prog 74 #[.agg #[.bool i, .int .u64 n, .int .u64 s, .string h, .string d]] W fun e w' => e = .returned (.string (pathOf h d)) ∧ Below W.heap.size W w') := Lib.hid (fun W => CP.out q1 q2 W)
        have CT := Lib.hid (fun W => CbCopy.text_any (pathOf h d) W (by omega))
        have HPL := Lib.hid (show (CbCopy.nums (pathOf h d)).length ≤ maxLen by unfold maxLen; omega)
        have HTX0 : Hid (∀ (W : World) (lo hi : Nat) (A : Option Addr), Seg W lo hi A (u8s (CbCopy.nums (pathOf h d))) → ItemV W 0 hi (.mk 3 0 (CbCopy.nums (pathOf h d)) []) (.agg #[.int .i64 3, .int .u64 0, .slice A (CbCopy.nums (pathOf h d)).length (CbCopy.nums (pathOf h d)).length, .slice none 0 0])) := Lib.hid (fun W lo hi A hs => item_text (hs.more (Nat.zero_le _) (Nat.le_refl _)) HPL.out)
        generalize CbCopy.nums (pathOf h d) = ns at *
        have CL2 : Hid (∀ (W : World) (A : Option Addr), ItemV W 0 W.heap.size (.mk 3 0 ns []) (.agg #[.int .i64 3, .int .u64 0, .slice A ns.length ns.length, .slice none 0 0]) → Calls Tryd.prog 33 #[.slice (some ⟨W.heap.size, 0, none⟩) 2 2] (W.alloc (.cells #[.int .i64 0, .int .u64 1, .slice none 0 0, .slice none 0 0, .int .i64 3, .int .u64 0, .slice A ns.length ns.length, .slice none 0 0] 26)) fun e w' =>
            ∃ A', e = .returned (.agg #[.int .i64 4, .int .u64 0, .slice none 0 0, .slice A' 2 2]) ∧ Hid (ItemV w' W.heap.size w'.heap.size T (.agg #[.int .i64 4, .int .u64 0, .slice none 0 0, .slice A' 2 2])) ∧ Below W.heap.size W w') := Lib.hid (fun W A hI => by
          rw [HT2.out]
          exact list2 (iN 1) (.mk 3 0 ns []) _ _ _ _ _ _ _ _ W (item_num _ _ _ 1 (by omega)) hI (by simp [CbList.wides, CbList.wide]; omega) (by simp [sizes, size]) (by simp [deeps, deep]))
        clear k0 k1 q1 q2 q1' q2' e e' hps hpl
        go_wp2_with fail
        go_region_held3 (fun w' => w'.cell? ⟨w.heap.size, 0, none⟩ = some (.bool i) ∧ w'.cell? ⟨w.heap.size, 1, none⟩ = some (.int .u64 n) ∧ w'.cell? ⟨w.heap.size, 2, none⟩ = some (.int .u64 s) ∧ w'.cell? ⟨w.heap.size, 3, none⟩ = some (.string h) ∧ w'.cell? ⟨w.heap.size, 4, none⟩ = some (.string d))
          (first | with_reducible exact KC.out _ HBd.out | with_reducible exact KC.out _ HBA.out | with_reducible exact KC.out _ HBB.out | with_reducible exact KC.out _ HBC.out | with_reducible exact KC.out _ (HBC.out.alloc HBC.out.size _) | with_reducible exact KC.out _ HBE.out | with_reducible exact KF.out _ HBE.out _ _ _ _ | fail)
          (first | (go_at_call 33; (with_reducible refine (CL2.out _ _ HIC.out).mono ?_); rintro e wE ⟨AE, rfl, HIE0, hbE⟩; have HBE := Lib.hid (below_next HBC.out HBC.out.size hbE); have HIE := Lib.hid (HIE0.out.more HBC.out.size (Nat.le_refl _)); obtain ⟨⟨z0, z1, z2, z3⟩, f0, f1, f2, f3⟩ := KZ.out _ HBE.out; clear hbE HIE0) | (go_at_call 73; (with_reducible refine (CT.out _).mono ?_); rintro e wC ⟨AC, rfl, HSC, hbC⟩; have HBC := Lib.hid (below_next HBB.out HBB.out.size hbC); have HIC := Lib.hid (HTX0.out _ _ _ _ HSC.out); clear hbC) | (go_at_call 74; (with_reducible refine (CPW.out _).mono ?_); rintro e wB ⟨rfl, hbB⟩; have HBB := Lib.hid (below_next HBA.out HBA.out.size hbB); clear hbB) | (go_at_call 29; (with_reducible refine (CN1.out _).mono ?_); rintro e wA ⟨rfl, hbA⟩; have HBA := Lib.hid (below_next HBd.out HBd.out.size hbA); clear hbA) | fail)
        obtain ⟨hz, F2, F3, F4⟩ := Fin.out wE AE HBE.out HIE
        have G2 := Lib.hid F2
        have G4 := Lib.hid F4
        clear F2 F4 hz HIE HBE HBA HBB HBC KC KF KZ
        clear z0 z1 z2 z3 f0 f1 f2 f3
        go_wp2_with fail
        generalize hW2 : set4 wE (w.heap.size + 1) (.int .i64 4) (.int .u64 0) (.slice none 0 0) (.slice AE 2 2) = W2 at G2 F3 G4
        unfold set4 at hW2
        rw [hW2]
        obtain ⟨z0, z1, z2, z3⟩ := cell4 G2.out
        refine bodyPost_ret (v := .tuple #[.agg #[.int .i64 4, .int .u64 0, .slice none 0 0, .slice AE 2 2], .int .i64 0]) (by simp [results, Tryd.results44, go_sem, *]) rfl ⟨_, rfl, F3, G4.out⟩
end Go.Proofs.YthknkdphofjmhaaDoor.Eid
