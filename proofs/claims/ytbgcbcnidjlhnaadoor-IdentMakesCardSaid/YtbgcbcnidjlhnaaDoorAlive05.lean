/- The fixed calls of layer 5's statements. -/
import Derived.Test.YtbgcbcnidjlhnaaDoorMkK
import Derived.Test.YtbgcbcnidjlhnaaDoorIdT
namespace Go.Proofs.YtbgcbcnidjlhnaaDoor.Eid
open Go.RowKit Wd Cb

theorem blk_only {w w' : World} {k g : Nat} {t : TypeId} {cs : Array Value} (h : Blk w k t cs) (hb : w.grownBy w' (some g)) (hne : k ≠ g) : Blk w' k t cs :=
  (hb.block k h.lt (fun e => hne (Option.some.inj e))).trans h
theorem below_only {B g : Nat} {w0 w w' : World} (h : Below B w0 w) (hb : w.grownBy w' (some g)) (hg : B ≤ g) (hB : B ≤ w.heap.size) : Below B w0 w' :=
  ⟨hb.os.trans h.os, hb.tape.trans h.tape, hb.output.trans h.output, Nat.le_trans h.size hb.size, fun k hk => (hb.block k (Nat.lt_of_lt_of_le hk hB) (fun e => by have := Option.some.inj e; omega)).trans (h.block k hk)⟩

abbrev s7 : Nm := ⟨true, 7, 0, ⟨#[]⟩, ⟨#[]⟩⟩
theorem s7_ok : s7.ok := ⟨by decide, by decide, by decide, by decide, by simp [ByteArray.size], by simp [ByteArray.size]⟩
theorem s7_right : right s7 = true := by
  unfold right
  simp only [if_true, Lib.toList_data]
  decide
theorem s7_eq : nmEq s7 zeroNm = false := rfl
theorem zero_eq : nmEq zeroNm zeroNm = true := nmEq_self _
theorem next1 : inext ⟨s7, 0, 0⟩ 5 = (⟨s7, 5, 0⟩, 0) := by unfold inext; rw [if_neg (by decide), if_pos (by decide)]
theorem next2 : inext ⟨s7, 5, 0⟩ 5 = (⟨s7, 5, 1⟩, 0) := by unfold inext; rw [if_neg (by decide), if_neg (by decide), if_neg (by decide)]; rfl
theorem next3 : inext ⟨s7, 5, 1⟩ 3 = (⟨s7, 5, 2⟩, 0) := by unfold inext; rw [if_neg (by decide), if_neg (by decide), if_neg (by decide)]; rfl
abbrev t7 : ByteArray := ⟨#[105, 112, 110, 58, 55, 46, 48, 45, 53, 45, 50]⟩
theorem text_7 : itext ⟨s7, 5, 2⟩ = t7 := by
  unfold itext textOf
  rw [kd_ipn, if_neg (by decide), if_pos rfl]
  show (((((((⟨#[105, 112, 110, 58]⟩ : ByteArray) ++ dec ((7 : Nat) : Int)) ++ (⟨#[46]⟩ : ByteArray)) ++ dec ((0 : Nat) : Int)) ++ (⟨#[45]⟩ : ByteArray)) ++ dec ((5 : Nat) : Int)) ++ (⟨#[45]⟩ : ByteArray)) ++ dec ((2 : Nat) : Int) = t7
  rw [dec_one 7 (by omega), dec_one 0 (by omega), dec_one 5 (by omega), dec_one 2 (by omega)]
  rfl
theorem right_7 : iright ⟨s7, 5, 2⟩ = true := by unfold iright; rw [s7_right]; decide
theorem ils_7 : ils ⟨s7, 5, 0⟩ ⟨s7, 5, 1⟩ = true := (ils_seq (x := ⟨s7, 5, 0⟩) (y := ⟨s7, 5, 1⟩) rfl (by decide)).trans (by decide)

set_option maxRecDepth 100000 in
set_option maxHeartbeats 8000000 in
theorem alive05_any (w : World) (G : Gl w) : Calls Tryd.prog 14 #[] w fun e w' => e = .returned (.bool true) ∧ Below w.heap.size w w' := by
  have CN1 : Hid (∀ W, Calls Tryd.prog 28 #[.agg #[.bool true, .int .u64 7, .int .u64 0, .string ⟨#[]⟩, .string ⟨#[]⟩]] W fun e w' => (∃ g, e = .returned (.tuple #[.pointer (some ⟨g, 0, none⟩), .int .i64 0]) ∧ W.heap.size ≤ g ∧ Mk w' g ⟨s7, 0, 0⟩ true) ∧ Below W.heap.size W w') := Lib.hid (fun W => by
    have h := new_any s7 s7_ok W
    rw [s7_eq, s7_right] at h
    exact h)
  have CN2 : Hid (∀ W, Calls Tryd.prog 28 #[.agg #[.bool false, .int .u64 0, .int .u64 0, .string ⟨#[]⟩, .string ⟨#[]⟩]] W fun e w' => e = .returned (.tuple #[.pointer none, .int .i64 3]) ∧ Below W.heap.size W w') := Lib.hid (fun W => by
    have h := new_any zeroNm zero_ok W
    rw [zero_eq] at h
    exact h)
  have CX1 : Hid (∀ W g, Mk W g ⟨s7, 0, 0⟩ true → Calls Tryd.prog 29 #[.pointer (some ⟨g, 0, none⟩), .int .u64 5] W fun e w' => e = .returned (.tuple #[.agg #[.bool true, .int .u64 7, .int .u64 0, .string ⟨#[]⟩, .string ⟨#[]⟩, .int .u64 5, .int .u64 0], .int .i64 0]) ∧ Mk w' g ⟨s7, 5, 0⟩ true ∧ W.grownBy w' (some g)) := Lib.hid (fun W g h => by
    have c := next_any g _ 5 W h (by decide)
    rw [next1] at c
    exact c)
  have CX2 : Hid (∀ W g, Mk W g ⟨s7, 5, 0⟩ true → Calls Tryd.prog 29 #[.pointer (some ⟨g, 0, none⟩), .int .u64 5] W fun e w' => e = .returned (.tuple #[.agg #[.bool true, .int .u64 7, .int .u64 0, .string ⟨#[]⟩, .string ⟨#[]⟩, .int .u64 5, .int .u64 1], .int .i64 0]) ∧ Mk w' g ⟨s7, 5, 1⟩ true ∧ W.grownBy w' (some g)) := Lib.hid (fun W g h => by
    have c := next_any g _ 5 W h (by decide)
    rw [next2] at c
    exact c)
  have CX3 : Hid (∀ W g, Mk W g ⟨s7, 5, 1⟩ true → Calls Tryd.prog 29 #[.pointer (some ⟨g, 0, none⟩), .int .u64 3] W fun e w' => e = .returned (.tuple #[.agg #[.bool true, .int .u64 7, .int .u64 0, .string ⟨#[]⟩, .string ⟨#[]⟩, .int .u64 5, .int .u64 2], .int .i64 0]) ∧ Mk w' g ⟨s7, 5, 2⟩ true ∧ W.grownBy w' (some g)) := Lib.hid (fun W g h => by
    have c := next_any g _ 3 W h (by decide)
    rw [next3] at c
    exact c)
  have CT : Hid (∀ W, Gl W → Calls Tryd.prog 17 #[.agg #[.bool true, .int .u64 7, .int .u64 0, .string ⟨#[]⟩, .string ⟨#[]⟩, .int .u64 5, .int .u64 2]] W fun e w' => e = .returned (.tuple #[.string ⟨#[105, 112, 110, 58, 55, 46, 48, 45, 53, 45, 50]⟩, .int .i64 0]) ∧ Below W.heap.size W w') := Lib.hid (fun W g => by
    have c := itext_any ⟨s7, 5, 2⟩ ⟨s7_ok, by decide, by decide, by decide, by decide⟩ W g
    rw [right_7, text_7] at c
    exact c)
  have CA : Hid (∀ W, Calls Tryd.prog 23 #[.agg #[.bool true, .int .u64 7, .int .u64 0, .string ⟨#[]⟩, .string ⟨#[]⟩, .int .u64 5, .int .u64 0], .agg #[.bool true, .int .u64 7, .int .u64 0, .string ⟨#[]⟩, .string ⟨#[]⟩, .int .u64 5, .int .u64 1]] W fun e w' => e = .returned (.bool true) ∧ Below W.heap.size W w') := Lib.hid (fun W => by
    have c := iahead_any ⟨s7, 5, 0⟩ ⟨s7, 5, 1⟩ W
    rw [ils_7] at c
    exact c)
  have HG := Lib.hid G
  clear G
  go_enter Tryd.func14, Tryd.ntmps14
  go_wp2_with fail
  refine (CN1.out _).mono ?_
  rintro e w1 ⟨⟨g, rfl, hg, hm⟩, hb1⟩
  have HB1 := Lib.hid hb1
  have HM1 := Lib.hid hm
  clear hb1 hm
  go_wp2_with fail
  refine (CX1.out _ _ HM1.out).mono ?_
  rintro e w2 ⟨rfl, hm, ho⟩
  have HB2 := Lib.hid ((below_only HB1.out ho hg HB1.out.size).alloc (Nat.le_trans HB1.out.size ho.size) (.cells #[.bool true, .int .u64 7, .int .u64 0, .string ⟨#[]⟩, .string ⟨#[]⟩, .int .u64 5, .int .u64 0] 26))
  have HM2 : Hid (Mk (w2.alloc (.cells #[.bool true, .int .u64 7, .int .u64 0, .string ⟨#[]⟩, .string ⟨#[]⟩, .int .u64 5, .int .u64 0] 26)) g ⟨s7, 5, 0⟩ true) := Lib.hid (Blk.alloc hm _)
  have HK2 := Lib.hid (Blk.new w2 26 #[.bool true, .int .u64 7, .int .u64 0, .string ⟨#[]⟩, .string ⟨#[]⟩, .int .u64 5, .int .u64 0])
  have HN2 := Lib.hid (show w2.heap.size ≠ g from Nat.ne_of_gt hm.lt)
  clear hm ho HB1 HM1
  go_upto_region 5 with (fail)
  generalize w2.alloc (.cells #[.bool true, .int .u64 7, .int .u64 0, .string ⟨#[]⟩, .string ⟨#[]⟩, .int .u64 5, .int .u64 0] 26) = W2 at *
  go_wp2_with fail
  refine (CX2.out _ _ HM2.out).mono ?_
  rintro e w3 ⟨rfl, hm, ho⟩
  have HB3 := Lib.hid ((below_only HB2.out ho hg HB2.out.size).alloc (Nat.le_trans HB2.out.size ho.size) (.cells #[.bool true, .int .u64 7, .int .u64 0, .string ⟨#[]⟩, .string ⟨#[]⟩, .int .u64 5, .int .u64 1] 26))
  have HM3 : Hid (Mk (w3.alloc (.cells #[.bool true, .int .u64 7, .int .u64 0, .string ⟨#[]⟩, .string ⟨#[]⟩, .int .u64 5, .int .u64 1] 26)) g ⟨s7, 5, 1⟩ true) := Lib.hid (Blk.alloc hm _)
  have HK3 := Lib.hid (Blk.new w3 26 #[.bool true, .int .u64 7, .int .u64 0, .string ⟨#[]⟩, .string ⟨#[]⟩, .int .u64 5, .int .u64 1])
  have HK23 := Lib.hid ((blk_only HK2.out ho HN2.out).alloc (.cells #[.bool true, .int .u64 7, .int .u64 0, .string ⟨#[]⟩, .string ⟨#[]⟩, .int .u64 5, .int .u64 1] 26))
  have HN3 := Lib.hid (show w3.heap.size ≠ g from Nat.ne_of_gt hm.lt)
  clear hm ho HB2 HM2 HK2
  go_upto_region 6 with (fail)
  generalize w3.alloc (.cells #[.bool true, .int .u64 7, .int .u64 0, .string ⟨#[]⟩, .string ⟨#[]⟩, .int .u64 5, .int .u64 1] 26) = W3 at *
  go_wp2_with fail
  refine (CX3.out _ _ HM3.out).mono ?_
  rintro e w4 ⟨rfl, hm, ho⟩
  have HB4 := Lib.hid ((below_only HB3.out ho hg HB3.out.size).alloc (Nat.le_trans HB3.out.size ho.size) (.cells #[.bool true, .int .u64 7, .int .u64 0, .string ⟨#[]⟩, .string ⟨#[]⟩, .int .u64 5, .int .u64 2] 26))
  have HK4 := Lib.hid (Blk.new w4 26 #[.bool true, .int .u64 7, .int .u64 0, .string ⟨#[]⟩, .string ⟨#[]⟩, .int .u64 5, .int .u64 2])
  have HK34 := Lib.hid ((blk_only HK3.out ho HN3.out).alloc (.cells #[.bool true, .int .u64 7, .int .u64 0, .string ⟨#[]⟩, .string ⟨#[]⟩, .int .u64 5, .int .u64 2] 26))
  have HK24 := Lib.hid ((blk_only HK23.out ho HN2.out).alloc (.cells #[.bool true, .int .u64 7, .int .u64 0, .string ⟨#[]⟩, .string ⟨#[]⟩, .int .u64 5, .int .u64 2] 26))
  clear hm ho HB3 HM3 HK3 HK23
  go_upto_region 7 with (fail)
  generalize w4.alloc (.cells #[.bool true, .int .u64 7, .int .u64 0, .string ⟨#[]⟩, .string ⟨#[]⟩, .int .u64 5, .int .u64 2] 26) = W4 at *
  obtain ⟨c0, c1, c2, c3, c4, c5, c6⟩ := cells7 HK4.out
  go_wp2_with fail
  refine (CT.out _ (HG.out.below HB4.out)).mono ?_
  rintro e w5 ⟨rfl, hb5⟩
  have HB5 := Lib.hid (below_next HB4.out HB4.out.size hb5)
  have HK45 := Lib.hid (HK4.out.next hb5)
  have HK35 := Lib.hid (HK34.out.next hb5)
  have HK25 := Lib.hid (HK24.out.next hb5)
  clear c0 c1 c2 c3 c4 c5 c6 hb5 HB4 HK4 HK34 HK24
  go_wp2_with fail
  refine (CN2.out _).mono ?_
  rintro e w6 ⟨rfl, hb6⟩
  have HB6 := Lib.hid (below_next HB5.out HB5.out.size hb6)
  obtain ⟨c0, c1, c2, c3, c4, c5, c6⟩ := cells7 (HK45.out.next hb6)
  obtain ⟨d0, d1, d2, d3, d4, d5, d6⟩ := cells7 (HK35.out.next hb6)
  obtain ⟨e0, e1, e2, e3, e4, e5, e6⟩ := cells7 (HK25.out.next hb6)
  clear hb6 HK45 HK35 HK25 HB5
  go_wp2_with fail
  refine (CA.out _).mono ?_
  rintro e w7 ⟨rfl, hb7⟩
  have HB7 := Lib.hid (below_next HB6.out HB6.out.size hb7)
  clear hb7 c0 c1 c2 c3 c4 c5 c6 d0 d1 d2 d3 d4 d5 d6 e0 e1 e2 e3 e4 e5 e6
  go_wp2_with fail
  go_ret
  exact ⟨rfl, HB7.out⟩
end Go.Proofs.YtbgcbcnidjlhnaaDoor.Eid
