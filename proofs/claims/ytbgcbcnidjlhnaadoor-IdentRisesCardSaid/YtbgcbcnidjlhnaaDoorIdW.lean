/- The contracts of ident.Right, Ahead, and of the statements' As and Great (layer 5). -/
import Derived.Test.YtbgcbcnidjlhnaaDoorIdP
import Derived.Deep.RegionHeld3
namespace Go.Proofs.YtbgcbcnidjlhnaaDoor.Eid
open Go.RowKit Wd Cb

theorem cells7 {w : World} {g : Nat} {t : TypeId} {a b c d e f k : Value} (h : Blk w g t #[a, b, c, d, e, f, k]) : w.cell? ⟨g, 0, none⟩ = some a ∧ w.cell? ⟨g, 1, none⟩ = some b ∧ w.cell? ⟨g, 2, none⟩ = some c ∧ w.cell? ⟨g, 3, none⟩ = some d ∧ w.cell? ⟨g, 4, none⟩ = some e ∧ w.cell? ⟨g, 5, none⟩ = some f ∧ w.cell? ⟨g, 6, none⟩ = some k :=
  ⟨by simpa using h.cell 0, by simpa using h.cell 1, by simpa using h.cell 2, by simpa using h.cell 3, by simpa using h.cell 4, by simpa using h.cell 5, by simpa using h.cell 6⟩

set_option maxHeartbeats 2000000 in
theorem iright_any (x : Id) (hx : x.ok) (w : World) : Calls Tryd.prog 21 #[x.val] w fun e w' => e = .returned (.bool (iright x)) ∧ Below w.heap.size w w' := by
  have CR := Lib.hid (fun w' => right_any x.src hx.s w')
  have HE := Lib.hid (show iright x = (right x.src && (decide (x.time ≤ 1099511627776) && decide (x.seq ≤ 1099511627776))) from rfl)
  clear hx
  generalize iright x = ir at *
  generalize right x.src = r at *
  obtain ⟨⟨i, n, s, h, d⟩, t, q⟩ := x
  have HB := Lib.hid ((Below.refl w.heap.size w).alloc (Nat.le_refl _) (.cells #[.bool i, .int .u64 n, .int .u64 s, .string h, .string d, .int .u64 t, .int .u64 q] 26))
  have HK := Lib.hid (Blk.new w 26 #[.bool i, .int .u64 n, .int .u64 s, .string h, .string d, .int .u64 t, .int .u64 q])
  go_enter Tryd.func21, Tryd.ntmps21
  go_wp2_with fail
  refine (CR.out _).mono ?_
  rintro e w1 ⟨rfl, hb⟩
  have HB1 := Lib.hid (below_next HB.out HB.out.size hb)
  obtain ⟨c0, c1, c2, c3, c4, c5, c6⟩ := cells7 (HK.out.next hb)
  clear hb HB HK CR
  cases r
  · go_wp2_with fail
    go_ret
    exact ⟨by rw [HE.out]; rfl, HB1.out⟩
  · cases h1 : decide (t ≤ 1099511627776)
    · have HF := Lib.hid (show ir = false by rw [HE.out, h1]; rfl)
      go_wp2_with fail
      go_ret
      exact ⟨by rw [HF.out]; rfl, HB1.out⟩
    · cases h2 : decide (q ≤ 1099511627776)
      · have HF := Lib.hid (show ir = false by rw [HE.out, h1, h2]; rfl)
        go_wp2_with fail
        go_ret
        exact ⟨by rw [HF.out]; rfl, HB1.out⟩
      · have HF := Lib.hid (show ir = true by rw [HE.out, h1, h2]; rfl)
        go_wp2_with fail
        go_ret
        exact ⟨by rw [HF.out]; rfl, HB1.out⟩

set_option maxRecDepth 100000 in
set_option maxHeartbeats 4000000 in
theorem iahead_any (x y : Id) (w : World) : Calls Tryd.prog 23 #[x.val, y.val] w fun e w' => e = .returned (.bool (ils x y)) ∧ Below w.heap.size w w' := by
  have CL := Lib.hid (fun w' => less_any x.src y.src w')
  have H1 := Lib.hid (@ils_time x y)
  have H2 := Lib.hid (@ils_seq x y)
  have H3 := Lib.hid (@ils_src x y)
  generalize ils x y = il at *
  generalize decide (ord x.src y.src < 0) = ol at *
  have HB := Lib.hid (((Below.refl w.heap.size w).alloc (Nat.le_refl _) (.cells x.cells 26)).alloc (by simp) (.cells y.cells 26))
  have HC := Lib.hid (fun (W : World) (h : Below ((w.alloc (.cells x.cells 26)).alloc (.cells y.cells 26)).heap.size ((w.alloc (.cells x.cells 26)).alloc (.cells y.cells 26)) W) =>
    show (W.cell? ⟨w.heap.size, 0, none⟩ = some (.bool x.src.ipn) ∧ W.cell? ⟨w.heap.size, 1, none⟩ = some (.int .u64 x.src.node) ∧ W.cell? ⟨w.heap.size, 2, none⟩ = some (.int .u64 x.src.service) ∧ W.cell? ⟨w.heap.size, 3, none⟩ = some (.string x.src.host) ∧ W.cell? ⟨w.heap.size, 4, none⟩ = some (.string x.src.demux) ∧ W.cell? ⟨w.heap.size, 5, none⟩ = some (.int .u64 x.time) ∧ W.cell? ⟨w.heap.size, 6, none⟩ = some (.int .u64 x.seq)) ∧
      (W.cell? ⟨w.heap.size + 1, 0, none⟩ = some (.bool y.src.ipn) ∧ W.cell? ⟨w.heap.size + 1, 1, none⟩ = some (.int .u64 y.src.node) ∧ W.cell? ⟨w.heap.size + 1, 2, none⟩ = some (.int .u64 y.src.service) ∧ W.cell? ⟨w.heap.size + 1, 3, none⟩ = some (.string y.src.host) ∧ W.cell? ⟨w.heap.size + 1, 4, none⟩ = some (.string y.src.demux) ∧ W.cell? ⟨w.heap.size + 1, 5, none⟩ = some (.int .u64 y.time) ∧ W.cell? ⟨w.heap.size + 1, 6, none⟩ = some (.int .u64 y.seq)) from by
    have k1 := (Blk.new w 26 x.cells).alloc (.cells y.cells 26)
    have k2 := Blk.new (w.alloc (.cells x.cells 26)) 26 y.cells
    simp only [World.size_alloc] at k2
    exact ⟨cells7 (k1.next h), cells7 (k2.next h)⟩)
  have CO := Lib.hid (fun (w' : World) (a b : Int) => show Calls Tryd.prog 54 #[.slice (some ⟨w'.heap.size, 0, none⟩) 2 2] (w'.alloc (.cells #[.int .i64 a, .int .i64 b] 3)).drew (fun e1 w1 => e1 = .returned (.int .i64 (or1 [a, b])) ∧ w1 = (w'.alloc (.cells #[.int .i64 a, .int .i64 b] 3)).drew) from
    or_any [a, b] w'.heap.size 2 _ (fun j hj => by
      have h := (Blk.new w' 3 #[.int .i64 a, .int .i64 b]).drew.cell j
      rw [h]
      match j, hj with
      | 0, _ => rfl
      | 1, _ => rfl) (by simp))
  obtain ⟨⟨i1, n1, s1, h1, d1⟩, t1, q1⟩ := x
  obtain ⟨⟨i2, n2, s2, h2, d2⟩, t2, q2⟩ := y
  go_enter Tryd.func23, Tryd.ntmps23
  go_upto_region 1 with (fail)
  generalize (w.alloc (.cells #[.bool i1, .int .u64 n1, .int .u64 s1, .string h1, .string d1, .int .u64 t1, .int .u64 q1] 26)).alloc (.cells #[.bool i2, .int .u64 n2, .int .u64 s2, .string h2, .string d2, .int .u64 t2, .int .u64 q2] 26) = W at *
  have HB0 := Lib.hid (Below.refl W.heap.size W)
  have HBd := Lib.hid ((Below.refl W.heap.size W).drew)
  have HP := Lib.hid (fun W' h => show _ from (⟨⟨(HC.out W' h).1.2.2.2.2.2.1, (HC.out W' h).1.2.2.2.2.2.2⟩, (HC.out W' h).2.2.2.2.2.2.1, (HC.out W' h).2.2.2.2.2.2.2⟩ : (W'.cell? ⟨w.heap.size, 5, none⟩ = some (.int .u64 t1) ∧ W'.cell? ⟨w.heap.size, 6, none⟩ = some (.int .u64 q1)) ∧ (W'.cell? ⟨w.heap.size + 1, 5, none⟩ = some (.int .u64 t2) ∧ W'.cell? ⟨w.heap.size + 1, 6, none⟩ = some (.int .u64 q2))))
  have HCd := Lib.hid (HC.out W (Below.refl _ _))
  obtain ⟨⟨x0, x1, x2, x3, x4, x5, x6⟩, ⟨y0, y1, y2, y3, y4, y5, y6⟩⟩ := HCd.out
  go_region_held3 (fun w' => (w'.cell? ⟨w.heap.size, 5, none⟩ = some (.int .u64 t1) ∧ w'.cell? ⟨w.heap.size, 6, none⟩ = some (.int .u64 q1)) ∧ (w'.cell? ⟨w.heap.size + 1, 5, none⟩ = some (.int .u64 t2) ∧ w'.cell? ⟨w.heap.size + 1, 6, none⟩ = some (.int .u64 q2)))
    (first | with_reducible exact HP.out _ HBd.out | with_reducible exact HP.out _ (HB0.out.alloc HB0.out.size _).drew | with_reducible exact HP.out _ (HBd.out.alloc HBd.out.size _) | fail)
    (first | (go_at_call 55; (refine (compare_any _ _ _).mono ?_); rintro e wq ⟨rfl, rfl⟩) | (go_at_call 54; (refine (CO.out _ _ _).mono ?_); rintro e wo ⟨rfl, rfl⟩) | fail)
  have HE := Lib.hid (below_next HB.out HB.out.size (HB0.out.alloc HB0.out.size (.cells #[.int .i64 (cI t1 t2), .int .i64 (cI q1 q2)] 3)).drew)
  obtain ⟨⟨x0, x1, x2, x3, x4, x5, x6⟩, ⟨y0, y1, y2, y3, y4, y5, y6⟩⟩ := HC.out _ (HB0.out.alloc HB0.out.size (.cells #[.int .i64 (cI t1 t2), .int .i64 (cI q1 q2)] 3)).drew
  have HOR : Hid (or1 [cI t1 t2, cI q1 q2] = if cI t1 t2 = 0 then (if cI q1 q2 = 0 then 0 else cI q1 q2) else cI t1 t2) := Lib.hid rfl
  have HO1 := Lib.hid (show ∀ x y : Int, (cI x y = 0 ↔ x = y) ∧ (cI x y < 0 ↔ x < y) from fun x y => ⟨cmpI_zero x y, cmpI_neg x y⟩)
  clear HBd HCd HC HB HP HB0 CO
  generalize (W.alloc (.cells #[.int .i64 (cI t1 t2), .int .i64 (cI q1 q2)] 3)).drew = W2 at *
  by_cases e1 : t1 = t2
  · by_cases e2 : q1 = q2
    · have HR := Lib.hid (H3.out e1 e2)
      have hz : or1 [cI t1 t2, cI q1 q2] = 0 := by rw [HOR.out, if_pos ((HO1.out _ _).1.2 e1), if_pos ((HO1.out _ _).1.2 e2)]
      generalize or1 [cI t1 t2, cI q1 q2] = z at *
      subst hz
      clear H1 H2 H3 e1 e2 HOR
      go_wp2_with fail
      refine (CL.out _).mono ?_
      rintro e w1 ⟨rfl, hb⟩
      have HE1 := Lib.hid (below_next HE.out HE.out.size hb)
      clear hb x0 x1 x2 x3 x4 x5 x6 y0 y1 y2 y3 y4 y5 y6
      go_wp2_with fail
      go_ret
      exact ⟨by rw [HR.out]; rfl, HE1.out⟩
    · have HR := Lib.hid (H2.out e1 e2)
      have hz : or1 [cI t1 t2, cI q1 q2] = cI q1 q2 := by rw [HOR.out, if_pos ((HO1.out _ _).1.2 e1), if_neg (fun h => e2 ((HO1.out _ _).1.1 h))]
      have HD := Lib.hid (show decide (or1 [cI t1 t2, cI q1 q2] < 0) = il by rw [hz, HR.out]; exact decide_eq_decide.2 (HO1.out _ _).2)
      have hn : (or1 [cI t1 t2, cI q1 q2] != 0) = true := by rw [hz]; simpa using fun h => e2 ((HO1.out _ _).1.1 h)
      generalize or1 [cI t1 t2, cI q1 q2] = z at *
      clear H1 H2 H3 e1 e2 hz HOR
      go_wp2_with fail
      go_ret
      exact ⟨ret_bool HD.out, HE.out⟩
  · have HR := Lib.hid (H1.out e1)
    have hz : or1 [cI t1 t2, cI q1 q2] = cI t1 t2 := by rw [HOR.out, if_neg (fun h => e1 ((HO1.out _ _).1.1 h))]
    have HD := Lib.hid (show decide (or1 [cI t1 t2, cI q1 q2] < 0) = il by rw [hz, HR.out]; exact decide_eq_decide.2 (HO1.out _ _).2)
    have hn : (or1 [cI t1 t2, cI q1 q2] != 0) = true := by rw [hz]; simpa using fun h => e1 ((HO1.out _ _).1.1 h)
    generalize or1 [cI t1 t2, cI q1 q2] = z at *
    clear H1 H2 H3 e1 hz HOR
    go_wp2_with fail
    go_ret
    exact ⟨ret_bool HD.out, HE.out⟩
end Go.Proofs.YtbgcbcnidjlhnaaDoor.Eid
