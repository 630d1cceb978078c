/- The makers of layer 5: the contracts of New, none, Last, Next, Keep. -/
import Derived.Test.YtbgcbcnidjlhnaaDoorIdS
namespace Go.Proofs.YtbgcbcnidjlhnaaDoor.Eid
open Go.RowKit Wd Cb
attribute [local go_sem ↓ high] Eid.run_nm

theorem cells8 {w : World} {g : Nat} {t : TypeId} {a b c d e f k l : Value} (h : Blk w g t #[a, b, c, d, e, f, k, l]) : w.cell? ⟨g, 0, none⟩ = some a ∧ w.cell? ⟨g, 1, none⟩ = some b ∧ w.cell? ⟨g, 2, none⟩ = some c ∧ w.cell? ⟨g, 3, none⟩ = some d ∧ w.cell? ⟨g, 4, none⟩ = some e ∧ w.cell? ⟨g, 5, none⟩ = some f ∧ w.cell? ⟨g, 6, none⟩ = some k ∧ w.cell? ⟨g, 7, none⟩ = some l :=
  ⟨by simpa using h.cell 0, by simpa using h.cell 1, by simpa using h.cell 2, by simpa using h.cell 3, by simpa using h.cell 4, by simpa using h.cell 5, by simpa using h.cell 6, by simpa using h.cell 7⟩
/-- A maker's block. -/
def Mk (w : World) (g : Nat) (x : Id) (m : Bool) : Prop := Blk w g 63 #[.bool x.src.ipn, .int .u64 x.src.node, .int .u64 x.src.service, .string x.src.host, .string x.src.demux, .int .u64 x.time, .int .u64 x.seq, .bool m]
theorem Mk.lt {w : World} {g : Nat} {x : Id} {m : Bool} (h : Mk w g x m) : g < w.heap.size := Blk.lt h
theorem Mk.next {w w' : World} {g : Nat} {x : Id} {m : Bool} (h : Mk w g x m) (hb : Below w.heap.size w w') : Mk w' g x m := Blk.next h hb

set_option maxHeartbeats 2000000 in
theorem none_nil (w : World) : Calls Tryd.prog 61 #[.pointer none] w fun e w' => e = .returned (.bool true) ∧ w' = w := by
  go_enter Tryd.func61, Tryd.ntmps61
  go_wp2_with fail
  go_ret
  exact ⟨rfl, rfl⟩
set_option maxHeartbeats 2000000 in
theorem none_any (g : Nat) (x : Id) (m : Bool) (w : World) (h : Mk w g x m) : Calls Tryd.prog 61 #[.pointer (some ⟨g, 0, none⟩)] w fun e w' => e = .returned (.bool (!m)) ∧ w' = w := by
  obtain ⟨c0, c1, c2, c3, c4, c5, c6, c7⟩ := cells8 h
  clear h
  go_enter Tryd.func61, Tryd.ntmps61
  go_wp2_with fail
  go_ret
  exact ⟨rfl, rfl⟩

set_option maxHeartbeats 4000000 in
theorem new_any (s : Nm) (hs : s.ok) (w : World) : Calls Tryd.prog 28 #[s.val] w fun e w' =>
    (if nmEq s zeroNm || !right s then e = .returned (.tuple #[.pointer none, .int .i64 3]) else ∃ g, e = .returned (.tuple #[.pointer (some ⟨g, 0, none⟩), .int .i64 0]) ∧ w.heap.size ≤ g ∧ Mk w' g ⟨s, 0, 0⟩ true) ∧ Below w.heap.size w w' := by
  have CR := Lib.hid (fun w' => right_any s hs w')
  have HQ := Lib.hid (show nmEq s zeroNm = nmEq s zeroNm from rfl)
  clear hs
  generalize right s = r at *
  obtain ⟨i, n, v, h, d⟩ := s
  have HB := Lib.hid ((Below.refl w.heap.size w).alloc (Nat.le_refl _) (.cells #[.bool i, .int .u64 n, .int .u64 v, .string h, .string d] 24))
  have HK := Lib.hid (Blk.new w 24 #[.bool i, .int .u64 n, .int .u64 v, .string h, .string d])
  generalize hq : nmEq ⟨i, n, v, h, d⟩ zeroNm = q at *
  clear HQ
  go_enter Tryd.func28, Tryd.ntmps28
  go_upto_region 1 with (fail)
  generalize w.alloc (.cells #[.bool i, .int .u64 n, .int .u64 v, .string h, .string d] 24) = W at *
  obtain ⟨c0, c1, c2, c3, c4⟩ := cells5 HK.out
  cases q
  rotate_left
  · go_wp2_with fail
    go_ret2
    exact ⟨rfl, HB.out⟩
  · go_wp2_with fail
    refine (CR.out _).mono ?_
    rintro e w1 ⟨rfl, hb⟩
    have HB1 := Lib.hid (below_next HB.out HB.out.size hb)
    have HK1 := Lib.hid (HK.out.next hb)
    clear c0 c1 c2 c3 c4 hb HB HK
    cases r
    · go_wp2_with fail
      go_ret2
      exact ⟨rfl, HB1.out⟩
    · obtain ⟨c0, c1, c2, c3, c4⟩ := cells5 HK1.out
      go_wp2_with fail
      go_ret2
      exact ⟨⟨w1.heap.size, rfl, HB1.out.size, Blk.new w1 _ _⟩, HB1.out.alloc HB1.out.size _⟩

set_option maxHeartbeats 4000000 in
theorem last_any (g : Nat) (x : Id) (w : World) (h : Mk w g x true) : Calls Tryd.prog 31 #[.pointer (some ⟨g, 0, none⟩)] w fun e w' => e = .returned x.val ∧ Below w.heap.size w w' := by
  have HB := Lib.hid ((Below.refl w.heap.size w).alloc (Nat.le_refl _) (.cells zero7 26))
  have HK := Lib.hid (h.next HB.out)
  have HZ := Lib.hid (Blk.new w 26 zero7)
  clear h
  have CN := Lib.hid (fun W hk => none_any g x true W hk)
  go_enter Tryd.func31, Tryd.ntmps31
  go_upto_region 1 with (fail)
  generalize w.alloc (.cells #[.bool false, .int .u64 0, .int .u64 0, .string ⟨#[]⟩, .string ⟨#[]⟩, .int .u64 0, .int .u64 0] 26) = W at *
  go_wp2_with fail
  refine (CN.out _ HK.out).mono ?_
  rintro e w1 ⟨rfl, rfl⟩
  obtain ⟨⟨i, n, s, hh, d⟩, t, q⟩ := x
  obtain ⟨c0, c1, c2, c3, c4, c5, c6, c7⟩ := cells8 HK.out
  obtain ⟨z0, z1, z2, z3, z4, z5, z6⟩ := cells7 HZ.out
  obtain ⟨f0, f1, f2, f3, f4, f5, f6⟩ := froz7 HZ.out
  go_wp2_with fail
  have HF1 := Lib.hid (set7_blk HZ.out (.bool i) (.int .u64 n) (.int .u64 s) (.string hh) (.string d) (.int .u64 t) (.int .u64 q))
  have HF2 := Lib.hid (set7_below HB.out (Nat.le_refl _) (.bool i) (.int .u64 n) (.int .u64 s) (.string hh) (.string d) (.int .u64 t) (.int .u64 q))
  clear z0 z1 z2 z3 z4 z5 z6 f0 f1 f2 f3 f4 f5 f6 c0 c1 c2 c3 c4 c5 c6 c7
  generalize hW9 : set7 w1 w.heap.size (.bool i) (.int .u64 n) (.int .u64 s) (.string hh) (.string d) (.int .u64 t) (.int .u64 q) = W9 at HF1 HF2
  unfold set7 at hW9
  rw [hW9]
  obtain ⟨z0, z1, z2, z3, z4, z5, z6⟩ := cells7 HF1.out
  refine bodyPost_ret (v := .agg #[.bool i, .int .u64 n, .int .u64 s, .string hh, .string d, .int .u64 t, .int .u64 q]) (by simp [results, Tryd.results31, go_sem, *]) rfl ⟨rfl, HF2.out⟩
set_option maxHeartbeats 4000000 in
theorem last_nil (w : World) : Calls Tryd.prog 31 #[.pointer none] w fun e w' => e = .returned zeroId.val ∧ Below w.heap.size w w' := by
  have HB := Lib.hid ((Below.refl w.heap.size w).alloc (Nat.le_refl _) (.cells zero7 26))
  have HZ := Lib.hid (Blk.new w 26 zero7)
  go_enter Tryd.func31, Tryd.ntmps31
  go_upto_region 1 with (fail)
  generalize w.alloc (.cells #[.bool false, .int .u64 0, .int .u64 0, .string ⟨#[]⟩, .string ⟨#[]⟩, .int .u64 0, .int .u64 0] 26) = W at *
  go_wp2_with fail
  refine (none_nil _).mono ?_
  rintro e w1 ⟨rfl, rfl⟩
  obtain ⟨z0, z1, z2, z3, z4, z5, z6⟩ := cells7 HZ.out
  obtain ⟨f0, f1, f2, f3, f4, f5, f6⟩ := froz7 HZ.out
  go_wp2_with fail
  have HF1 := Lib.hid (set7_blk HZ.out (.bool false) (.int .u64 0) (.int .u64 0) (.string ⟨#[]⟩) (.string ⟨#[]⟩) (.int .u64 0) (.int .u64 0))
  have HF2 := Lib.hid (set7_below HB.out (Nat.le_refl _) (.bool false) (.int .u64 0) (.int .u64 0) (.string ⟨#[]⟩) (.string ⟨#[]⟩) (.int .u64 0) (.int .u64 0))
  clear z0 z1 z2 z3 z4 z5 z6 f0 f1 f2 f3 f4 f5 f6
  generalize hW9 : set7 w1 w.heap.size (.bool false) (.int .u64 0) (.int .u64 0) (.string ⟨#[]⟩) (.string ⟨#[]⟩) (.int .u64 0) (.int .u64 0) = W9 at HF1 HF2
  unfold set7 at hW9
  rw [hW9]
  obtain ⟨z0, z1, z2, z3, z4, z5, z6⟩ := cells7 HF1.out
  refine bodyPost_ret (v := zeroId.val) (by simp [results, Tryd.results31, go_sem, *]) rfl ⟨rfl, HF2.out⟩
end Go.Proofs.YtbgcbcnidjlhnaaDoor.Eid
