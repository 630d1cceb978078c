/- Texts of my own, laid together: Mk, MkN. -/
import Derived.Test.YtbgcbcnidjlhnaaDoorZm5
/- The makers of layer 5: the contracts of New, none, Last, Next, Keep. -/
namespace Go.Proofs.YtbgcbcnidjlhnaaDoor.Eid
open Go.RowKit Wd Cb
attribute [local go_sem ↓ high] Eid.run_nm

theorem cells8 {w : World} {g : Nat} {t : TypeId} {a b c d e f k l : Value} (h : Blk w g t #[a, b, c, d, e, f, k, l]) : w.cell? ⟨g, 0, none⟩ = some a ∧ w.cell? ⟨g, 1, none⟩ = some b ∧ w.cell? ⟨g, 2, none⟩ = some c ∧ w.cell? ⟨g, 3, none⟩ = some d ∧ w.cell? ⟨g, 4, none⟩ = some e ∧ w.cell? ⟨g, 5, none⟩ = some f ∧ w.cell? ⟨g, 6, none⟩ = some k ∧ w.cell? ⟨g, 7, none⟩ = some l :=
  ⟨by simpa using h.cell 0, by simpa using h.cell 1, by simpa using h.cell 2, by simpa using h.cell 3, by simpa using h.cell 4, by simpa using h.cell 5, by simpa using h.cell 6, by simpa using h.cell 7⟩
/-- A maker's block. -/
def Mk (w : World) (g : Nat) (x : Id) (m : Bool) : Prop := Blk w g 63 #[.bool x.src.ipn, .int .u64 x.src.node, .int .u64 x.src.service, .string x.src.host, .string x.src.demux, .int .u64 x.time, .int .u64 x.seq, .bool m]
theorem Mk.lt {w : World} {g : Nat} {x : Id} {m : Bool} (h : Mk w g x m) : g < w.heap.size := Blk.lt h
theorem Mk.next {w w' : World} {g : Nat} {x : Id} {m : Bool} (h : Mk w g x m) (hb : Below w.heap.size w w') : Mk w' g x m := Blk.next h hb

set_option maxHeartbeats 2000000 in
theorem none_nil (w : World) : Calls Tryd.prog 61 #[.pointer none] w fun e w' => e = .returned (.bool true) ∧ w' = w := by
  go_enter Tryd.func61, Tryd.ntmps61
  go_wp2_with fail
  go_ret
  exact ⟨rfl, rfl⟩
set_option maxHeartbeats 2000000 in
theorem none_any (g : Nat) (x : Id) (m : Bool) (w : World) (h : Mk w g x m) : Calls Tryd.prog 61 #[.pointer (some ⟨g, 0, none⟩)] w fun e w' => e = .returned (.bool (!m)) ∧ w' = w := by
  obtain ⟨c0, c1, c2, c3, c4, c5, c6, c7⟩ := cells8 h
  clear h
  go_enter Tryd.func61, Tryd.ntmps61
  go_wp2_with fail
  go_ret
  exact ⟨rfl, rfl⟩

set_option maxHeartbeats 4000000 in
theorem new_any (s : Nm) (hs : s.ok) (w : World) : Calls Tryd.prog 28 #[s.val] w fun e w' =>
    (if nmEq s zeroNm || !right s then e = .returned (.tuple #[.pointer none, .int .i64 3]) else ∃ g, e = .returned (.tuple #[.pointer (some ⟨g, 0, none⟩), .int .i64 0]) ∧ w.heap.size ≤ g ∧ Mk w' g ⟨s, 0, 0⟩ true) ∧ Below w.heap.size w w' := by
  have CR := Lib.hid (fun w' => right_any s hs w')
  have HQ := Lib.hid (show nmEq s zeroNm = nmEq s zeroNm from rfl)
  clear hs
  generalize right s = r at *
  obtain ⟨i, n, v, h, d⟩ := s
  have HB := Lib.hid ((Below.refl w.heap.size w).alloc (Nat.le_refl _) (.cells #[.bool i, .int .u64 n, .int .u64 v, .string h, .string d] 24))
  have HK := Lib.hid (Blk.new w 24 #[.bool i, .int .u64 n, .int .u64 v, .string h, .string d])
  generalize hq : nmEq ⟨i, n, v, h, d⟩ zeroNm = q at *
  clear HQ
  go_enter Tryd.func28, Tryd.ntmps28
  go_upto_region 1 with (fail)
  generalize w.alloc (.cells #[.bool i, .int .u64 n, .int .u64 v, .string h, .string d] 24) = W at *
  obtain ⟨c0, c1, c2, c3, c4⟩ := cells5 HK.out
  cases q
  rotate_left
  · go_wp2_with fail
    go_ret2
    exact ⟨rfl, HB.out⟩
  · go_wp2_with fail
    refine (CR.out _).mono ?_
    rintro e w1 ⟨rfl, hb⟩
    have HB1 := Lib.hid (below_next HB.out HB.out.size hb)
    have HK1 := Lib.hid (HK.out.next hb)
    clear c0 c1 c2 c3 c4 hb HB HK
    cases r
    · go_wp2_with fail
      go_ret2
      exact ⟨rfl, HB1.out⟩
    · obtain ⟨c0, c1, c2, c3, c4⟩ := cells5 HK1.out
      go_wp2_with fail
      go_ret2
      exact ⟨⟨w1.heap.size, rfl, HB1.out.size, Blk.new w1 _ _⟩, HB1.out.alloc HB1.out.size _⟩

set_option maxHeartbeats 4000000 in
theorem last_any (g : Nat) (x : Id) (w : World) (h : Mk w g x true) : Calls Tryd.prog 31 #[.pointer (some ⟨g, 0, none⟩)] w fun e w' => e = .returned x.val ∧ Below w.heap.size w w' := by
  have HB := Lib.hid ((Below.refl w.heap.size w).alloc (Nat.le_refl _) (.cells zero7 26))
  have HK := Lib.hid (h.next HB.out)
  have HZ := Lib.hid (Blk.new w 26 zero7)
  clear h
  have CN := Lib.hid (fun W hk => none_any g x true W hk)
  go_enter Tryd.func31, Tryd.ntmps31
  go_upto_region 1 with (fail)
  generalize w.alloc (.cells #[.bool false, .int .u64 0, .int .u64 0, .string ⟨#[]⟩, .string ⟨#[]⟩, .int .u64 0, .int .u64 0] 26) = W at *
  go_wp2_with fail
  refine (CN.out _ HK.out).mono ?_
  rintro e w1 ⟨rfl, rfl⟩
  obtain ⟨⟨i, n, s, hh, d⟩, t, q⟩ := x
  obtain ⟨c0, c1, c2, c3, c4, c5, c6, c7⟩ := cells8 HK.out
  obtain ⟨z0, z1, z2, z3, z4, z5, z6⟩ := cells7 HZ.out
  obtain ⟨f0, f1, f2, f3, f4, f5, f6⟩ := froz7 HZ.out
  go_wp2_with fail
  have HF1 := Lib.hid (set7_blk HZ.out (.bool i) (.int .u64 n) (.int .u64 s) (.string hh) (.string d) (.int .u64 t) (.int .u64 q))
  have HF2 := Lib.hid (set7_below HB.out (Nat.le_refl _) (.bool i) (.int .u64 n) (.int .u64 s) (.string hh) (.string d) (.int .u64 t) (.int .u64 q))
  clear z0 z1 z2 z3 z4 z5 z6 f0 f1 f2 f3 f4 f5 f6 c0 c1 c2 c3 c4 c5 c6 c7
  generalize hW9 : set7 w1 w.heap.size (.bool i) (.int .u64 n) (.int .u64 s) (.string hh) (.string d) (.int .u64 t) (.int .u64 q) = W9 at HF1 HF2
  unfold set7 at hW9
  rw [hW9]
  obtain ⟨z0, z1, z2, z3, z4, z5, z6⟩ := cells7 HF1.out
  refine bodyPost_ret (v := .agg #[.bool i, .int .u64 n, .int .u64 s, .string hh, .string d, .int .u64 t, .int .u64 q]) (by simp [results, Tryd.results31, go_sem, *]) rfl ⟨rfl, HF2.out⟩
set_option maxHeartbeats 4000000 in
theorem last_nil (w : World) : Calls Tryd.prog 31 #[.pointer none] w fun e w' => e = .returned zeroId.val ∧ Below w.heap.size w w' := by
  have HB := Lib.hid ((Below.refl w.heap.size w).alloc (Nat.le_refl _) (.cells zero7 26))
  have HZ := Lib.hid (Blk.new w 26 zero7)
  go_enter Tryd.func31, Tryd.ntmps31
  go_upto_region 1 with (fail)
  generalize w.alloc (.cells #[.bool false, .int .u64 0, .int .u64 0, .string ⟨#[]⟩, .string ⟨#[]⟩, .int .u64 0, .int .u64 0] 26) = W at *
  go_wp2_with fail
  refine (none_nil _).mono ?_
  rintro e w1 ⟨rfl, rfl⟩
  obtain ⟨z0, z1, z2, z3, z4, z5, z6⟩ := cells7 HZ.out
  obtain ⟨f0, f1, f2, f3, f4, f5, f6⟩ := froz7 HZ.out
  go_wp2_with fail
  have HF1 := Lib.hid (set7_blk HZ.out (.bool false) (.int .u64 0) (.int .u64 0) (.string ⟨#[]⟩) (.string ⟨#[]⟩) (.int .u64 0) (.int .u64 0))
  have HF2 := Lib.hid (set7_below HB.out (Nat.le_refl _) (.bool false) (.int .u64 0) (.int .u64 0) (.string ⟨#[]⟩) (.string ⟨#[]⟩) (.int .u64 0) (.int .u64 0))
  clear z0 z1 z2 z3 z4 z5 z6 f0 f1 f2 f3 f4 f5 f6
  generalize hW9 : set7 w1 w.heap.size (.bool false) (.int .u64 0) (.int .u64 0) (.string ⟨#[]⟩) (.string ⟨#[]⟩) (.int .u64 0) (.int .u64 0) = W9 at HF1 HF2
  unfold set7 at hW9
  rw [hW9]
  obtain ⟨z0, z1, z2, z3, z4, z5, z6⟩ := cells7 HF1.out
  refine bodyPost_ret (v := zeroId.val) (by simp [results, Tryd.results31, go_sem, *]) rfl ⟨rfl, HF2.out⟩
end Go.Proofs.YtbgcbcnidjlhnaaDoor.Eid
/- The makers of layer 5: the contracts of Next and Keep. -/
namespace Go.Proofs.YtbgcbcnidjlhnaaDoor.Eid
open Go.RowKit Wd Cb
attribute [local go_sem ↓ high] Eid.run_nm

theorem only_new {a w : World} {r : Option Nat} (h : a.grownBy w r) {p : Addr} (hp : a.heap.size ≤ p.block) (u : Value) : a.grownBy (w.setCell p u) r :=
  ⟨h.os, h.tape, h.output, by simpa [World.setCell] using h.size, fun i hi hne => (Below.heap_setCell w p u i (by omega)).trans (h.block i hi hne)⟩
theorem only_set7 {a w : World} {r : Option Nat} {b : Nat} (h : a.grownBy w r) (hb : a.heap.size ≤ b) (x y z u v s t : Value) : a.grownBy (set7 w b x y z u v s t) r :=
  only_new (only_new (only_new (only_new (only_new (only_new (only_new h (p := ⟨b, 0, none⟩) hb x) (p := ⟨b, 1, none⟩) hb y) (p := ⟨b, 2, none⟩) hb z) (p := ⟨b, 3, none⟩) hb u) (p := ⟨b, 4, none⟩) hb v) (p := ⟨b, 5, none⟩) hb s) (p := ⟨b, 6, none⟩) hb t

/-- What a maker tells next, and its errno. -/
def inext (x : Id) (now : Int) : Id × Int := if 1099511627776 < now then (x, 1) else if x.time < now then (⟨x.src, now, 0⟩, 0) else if 1099511627776 ≤ x.seq then (x, 5) else (⟨x.src, x.time, x.seq + 1⟩, 0)

/-- The number that is told. -/
def nv (p : Id × Int) : Id := if p.2 = 0 then p.1 else zeroId

set_option maxHeartbeats 4000000 in
theorem next_any (g : Nat) (x : Id) (now : Int) (w : World) (h : Mk w g x true) (hq : 0 ≤ x.seq) : Calls Tryd.prog 29 #[.pointer (some ⟨g, 0, none⟩), .int .u64 now] w fun e w' =>
    e = .returned (.tuple #[(nv (inext x now)).val, .int .i64 (inext x now).2]) ∧ Mk w' g (inext x now).1 true ∧ w.grownBy w' (some g) := by
  have HB := Lib.hid ((Below.refl w.heap.size w).alloc (Nat.le_refl _) (.cells zero7 26))
  have HO := Lib.hid (only_alloc (only_below (Below.refl w.heap.size w)) (r := some g) (.cells zero7 26))
  have HK := Lib.hid (h.next HB.out)
  have HZ := Lib.hid (Blk.new w 26 zero7)
  have HNE := Lib.hid (show g ≠ w.heap.size from Nat.ne_of_lt h.lt)
  clear h
  have CN := Lib.hid (fun W hk => none_any g x true W hk)
  have HD := Lib.hid (show inext x now = if 1099511627776 < now then (x, 1) else if x.time < now then (⟨x.src, now, 0⟩, 0) else if 1099511627776 ≤ x.seq then (x, 5) else (⟨x.src, x.time, x.seq + 1⟩, 0) from rfl)
  generalize inext x now = P at *
  go_enter Tryd.func29, Tryd.ntmps29
  go_upto_region 2 with (fail)
  generalize w.alloc (.cells #[.bool false, .int .u64 0, .int .u64 0, .string ⟨#[]⟩, .string ⟨#[]⟩, .int .u64 0, .int .u64 0] 26) = W at *
  go_wp2_with fail
  refine (CN.out _ HK.out).mono ?_
  rintro e w1 ⟨rfl, rfl⟩
  obtain ⟨⟨i, n, s, hh, d⟩, t, q⟩ := x
  cases a1 : decide (1099511627776 < now)
  rotate_left
  · have HP := Lib.hid (show P = (⟨⟨i, n, s, hh, d⟩, t, q⟩, 1) by rw [HD.out, if_pos (of_decide_eq_true a1)])
    obtain ⟨z0, z1, z2, z3, z4, z5, z6⟩ := cells7 HZ.out
    obtain ⟨f0, f1, f2, f3, f4, f5, f6⟩ := froz7 HZ.out
    go_wp2_with fail
    have HF1 := Lib.hid (set7_blk HZ.out (.bool false) (.int .u64 0) (.int .u64 0) (.string ⟨#[]⟩) (.string ⟨#[]⟩) (.int .u64 0) (.int .u64 0))
    have HF2 := Lib.hid (only_set7 HO.out (Nat.le_refl _) (.bool false) (.int .u64 0) (.int .u64 0) (.string ⟨#[]⟩) (.string ⟨#[]⟩) (.int .u64 0) (.int .u64 0))
    have HF3 : Hid (Mk (set7 w1 w.heap.size (.bool false) (.int .u64 0) (.int .u64 0) (.string ⟨#[]⟩) (.string ⟨#[]⟩) (.int .u64 0) (.int .u64 0)) g ⟨⟨i, n, s, hh, d⟩, t, q⟩ true) := Lib.hid (set7_far HK.out HNE.out _ _ _ _ _ _ _)
    clear z0 z1 z2 z3 z4 z5 z6 f0 f1 f2 f3 f4 f5 f6
    generalize hW9 : set7 w1 w.heap.size (.bool false) (.int .u64 0) (.int .u64 0) (.string ⟨#[]⟩) (.string ⟨#[]⟩) (.int .u64 0) (.int .u64 0) = W9 at HF1 HF2 HF3
    unfold set7 at hW9
    rw [hW9]
    obtain ⟨z0, z1, z2, z3, z4, z5, z6⟩ := cells7 HF1.out
    refine bodyPost_ret (v := .tuple #[zeroId.val, .int .i64 1]) (by simp [results, Tryd.results29, go_sem, *]) rfl ⟨by rw [HP.out]; rfl, by rw [HP.out]; exact HF3.out, HF2.out⟩
  · cases a2 : decide (t < now)
    rotate_left
    · have HP := Lib.hid (show P = (⟨⟨i, n, s, hh, d⟩, now, 0⟩, 0) by rw [HD.out, if_neg (of_decide_eq_false a1), if_pos (of_decide_eq_true a2)])
      obtain ⟨c0, c1, c2, c3, c4, c5, c6, c7⟩ := cells8 HK.out
      have g5 := HK.out.frozen 5
      have g6 := HK.out.frozen 6
      have HK2 : Hid (Mk ((w1.setCell ⟨g, 5, none⟩ (.int .u64 now)).setCell ⟨g, 6, none⟩ (.int .u64 0)) g ⟨⟨i, n, s, hh, d⟩, now, 0⟩ true) := Lib.hid (show Blk _ g 63 #[.bool i, .int .u64 n, .int .u64 s, .string hh, .string d, .int .u64 now, .int .u64 0, .bool true] from by simpa using (Blk.set_ (show Blk w1 g 63 #[.bool i, .int .u64 n, .int .u64 s, .string hh, .string d, .int .u64 t, .int .u64 q, .bool true] from HK.out) 5 (.int .u64 now)).set_ 6 (.int .u64 0))
      have HZ2 := Lib.hid ((HZ.out.far (p := ⟨g, 5, none⟩) HNE.out.symm (.int .u64 now)).far (p := ⟨g, 6, none⟩) HNE.out.symm (.int .u64 0))
      have HO2 := Lib.hid (only_set (only_set HO.out (p := ⟨g, 5, none⟩) rfl (.int .u64 now)) (p := ⟨g, 6, none⟩) rfl (.int .u64 0))
      go_upto_region 10 with (fail)
      clear c0 c1 c2 c3 c4 c5 c6 c7 g5 g6 HK HZ HO
      generalize ((w1.setCell ⟨g, 5, none⟩ (.int .u64 now)).setCell ⟨g, 6, none⟩ (.int .u64 0)) = W2 at *
      obtain ⟨c0, c1, c2, c3, c4, c5, c6, c7⟩ := cells8 HK2.out
      obtain ⟨z0, z1, z2, z3, z4, z5, z6⟩ := cells7 HZ2.out
      obtain ⟨f0, f1, f2, f3, f4, f5, f6⟩ := froz7 HZ2.out
      go_wp2_with fail
      have HF1 := Lib.hid (set7_blk HZ2.out (.bool i) (.int .u64 n) (.int .u64 s) (.string hh) (.string d) (.int .u64 now) (.int .u64 0))
      have HF2 := Lib.hid (only_set7 HO2.out (Nat.le_refl _) (.bool i) (.int .u64 n) (.int .u64 s) (.string hh) (.string d) (.int .u64 now) (.int .u64 0))
      have HF3 : Hid (Mk (set7 W2 w.heap.size (.bool i) (.int .u64 n) (.int .u64 s) (.string hh) (.string d) (.int .u64 now) (.int .u64 0)) g ⟨⟨i, n, s, hh, d⟩, now, 0⟩ true) := Lib.hid (set7_far HK2.out HNE.out _ _ _ _ _ _ _)
      clear z0 z1 z2 z3 z4 z5 z6 f0 f1 f2 f3 f4 f5 f6 c0 c1 c2 c3 c4 c5 c6 c7
      generalize hW9 : set7 W2 w.heap.size (.bool i) (.int .u64 n) (.int .u64 s) (.string hh) (.string d) (.int .u64 now) (.int .u64 0) = W9 at HF1 HF2 HF3
      unfold set7 at hW9
      rw [hW9]
      obtain ⟨z0, z1, z2, z3, z4, z5, z6⟩ := cells7 HF1.out
      refine bodyPost_ret (v := .tuple #[.agg #[.bool i, .int .u64 n, .int .u64 s, .string hh, .string d, .int .u64 now, .int .u64 0], .int .i64 0]) (by simp [results, Tryd.results29, go_sem, *]) rfl ⟨by rw [HP.out]; rfl, by rw [HP.out]; exact HF3.out, HF2.out⟩
    · cases a3 : decide (1099511627776 ≤ q)
      rotate_left
      · have HP := Lib.hid (show P = (⟨⟨i, n, s, hh, d⟩, t, q⟩, 5) by rw [HD.out, if_neg (of_decide_eq_false a1), if_neg (of_decide_eq_false a2), if_pos (of_decide_eq_true a3)])
        obtain ⟨c0, c1, c2, c3, c4, c5, c6, c7⟩ := cells8 HK.out
        obtain ⟨z0, z1, z2, z3, z4, z5, z6⟩ := cells7 HZ.out
        obtain ⟨f0, f1, f2, f3, f4, f5, f6⟩ := froz7 HZ.out
        go_wp2_with fail
        have HF1 := Lib.hid (set7_blk HZ.out (.bool false) (.int .u64 0) (.int .u64 0) (.string ⟨#[]⟩) (.string ⟨#[]⟩) (.int .u64 0) (.int .u64 0))
        have HF2 := Lib.hid (only_set7 HO.out (Nat.le_refl _) (.bool false) (.int .u64 0) (.int .u64 0) (.string ⟨#[]⟩) (.string ⟨#[]⟩) (.int .u64 0) (.int .u64 0))
        have HF3 : Hid (Mk (set7 w1 w.heap.size (.bool false) (.int .u64 0) (.int .u64 0) (.string ⟨#[]⟩) (.string ⟨#[]⟩) (.int .u64 0) (.int .u64 0)) g ⟨⟨i, n, s, hh, d⟩, t, q⟩ true) := Lib.hid (set7_far HK.out HNE.out _ _ _ _ _ _ _)
        clear z0 z1 z2 z3 z4 z5 z6 f0 f1 f2 f3 f4 f5 f6 c0 c1 c2 c3 c4 c5 c6 c7
        generalize hW9 : set7 w1 w.heap.size (.bool false) (.int .u64 0) (.int .u64 0) (.string ⟨#[]⟩) (.string ⟨#[]⟩) (.int .u64 0) (.int .u64 0) = W9 at HF1 HF2 HF3
        unfold set7 at hW9
        rw [hW9]
        obtain ⟨z0, z1, z2, z3, z4, z5, z6⟩ := cells7 HF1.out
        refine bodyPost_ret (v := .tuple #[zeroId.val, .int .i64 5]) (by simp [results, Tryd.results29, go_sem, *]) rfl ⟨by rw [HP.out]; rfl, by rw [HP.out]; exact HF3.out, HF2.out⟩
      · have HP := Lib.hid (show P = (⟨⟨i, n, s, hh, d⟩, t, q + 1⟩, 0) by rw [HD.out, if_neg (of_decide_eq_false a1), if_neg (of_decide_eq_false a2), if_neg (of_decide_eq_false a3)])
        have hw : IntKind.u64.wrap (q + 1) = q + 1 := by have := of_decide_eq_false a3; have hq' : 0 ≤ q := hq; rw [IntKind.wrap_u64]; omega
        obtain ⟨c0, c1, c2, c3, c4, c5, c6, c7⟩ := cells8 HK.out
        have g6 := HK.out.frozen 6
        have HK2 : Hid (Mk (w1.setCell ⟨g, 6, none⟩ (.int .u64 (q + 1))) g ⟨⟨i, n, s, hh, d⟩, t, q + 1⟩ true) := Lib.hid (show Blk _ g 63 #[.bool i, .int .u64 n, .int .u64 s, .string hh, .string d, .int .u64 t, .int .u64 (q + 1), .bool true] from by simpa using Blk.set_ (show Blk w1 g 63 #[.bool i, .int .u64 n, .int .u64 s, .string hh, .string d, .int .u64 t, .int .u64 q, .bool true] from HK.out) 6 (.int .u64 (q + 1)))
        have HZ2 := Lib.hid (HZ.out.far (p := ⟨g, 6, none⟩) HNE.out.symm (.int .u64 (q + 1)))
        have HO2 := Lib.hid (only_set HO.out (p := ⟨g, 6, none⟩) rfl (.int .u64 (q + 1)))
        go_upto_region 10 with (fail)
        try rw [hw]
        clear c0 c1 c2 c3 c4 c5 c6 c7 g6 HK HZ HO
        generalize w1.setCell ⟨g, 6, none⟩ (.int .u64 (q + 1)) = W2 at *
        obtain ⟨c0, c1, c2, c3, c4, c5, c6, c7⟩ := cells8 HK2.out
        obtain ⟨z0, z1, z2, z3, z4, z5, z6⟩ := cells7 HZ2.out
        obtain ⟨f0, f1, f2, f3, f4, f5, f6⟩ := froz7 HZ2.out
        go_wp2_with fail
        have HF1 := Lib.hid (set7_blk HZ2.out (.bool i) (.int .u64 n) (.int .u64 s) (.string hh) (.string d) (.int .u64 t) (.int .u64 (q + 1)))
        have HF2 := Lib.hid (only_set7 HO2.out (Nat.le_refl _) (.bool i) (.int .u64 n) (.int .u64 s) (.string hh) (.string d) (.int .u64 t) (.int .u64 (q + 1)))
        have HF3 : Hid (Mk (set7 W2 w.heap.size (.bool i) (.int .u64 n) (.int .u64 s) (.string hh) (.string d) (.int .u64 t) (.int .u64 (q + 1))) g ⟨⟨i, n, s, hh, d⟩, t, q + 1⟩ true) := Lib.hid (set7_far HK2.out HNE.out _ _ _ _ _ _ _)
        clear z0 z1 z2 z3 z4 z5 z6 f0 f1 f2 f3 f4 f5 f6 c0 c1 c2 c3 c4 c5 c6 c7
        generalize hW9 : set7 W2 w.heap.size (.bool i) (.int .u64 n) (.int .u64 s) (.string hh) (.string d) (.int .u64 t) (.int .u64 (q + 1)) = W9 at HF1 HF2 HF3
        unfold set7 at hW9
        rw [hW9]
        obtain ⟨z0, z1, z2, z3, z4, z5, z6⟩ := cells7 HF1.out
        refine bodyPost_ret (v := .tuple #[.agg #[.bool i, .int .u64 n, .int .u64 s, .string hh, .string d, .int .u64 t, .int .u64 (q + 1)], .int .i64 0]) (by simp [results, Tryd.results29, go_sem, *]) rfl ⟨by rw [HP.out]; rfl, by rw [HP.out]; exact HF3.out, HF2.out⟩
end Go.Proofs.YtbgcbcnidjlhnaaDoor.Eid
