/- The walk of the statement HeadWrites. -/
import Derived.Test.YtgjihjijlhdjdaaHeadAlive
import Derived.Test.YtgjihjijlhdjdaaRefHead
namespace Go.Proofs.Ytgjihjijlhdjdaa.HeadWrites
open Go.RowKit Wd HeadAlive

/-- The two boxes of the statement, and what is below them. -/
def Two (w v : World) (m n : Int) (o : Bool) : Prop :=
  Blk v w.heap.size 54 #[.int .i64 m, .int .u64 n, .bool o] ∧ Blk v (w.heap.size + 1) 55 #[.int .i64 m, .int .u64 n, .bool o] ∧ Below w.heap.size w v
theorem Two.next {w v v' : World} {m n : Int} {o : Bool} (h : Two w v m n o) (hb : Below v.heap.size v v') : Two w v' m n o := ⟨h.1.next hb, h.2.1.next hb, below_next h.2.2 h.2.2.size hb⟩
theorem Two.cells {w v : World} {m n : Int} {o : Bool} (h : Two w v m n o) :
    v.cell? ⟨w.heap.size, 0, none⟩ = some (.int .i64 m) ∧ v.cell? ⟨w.heap.size, 1, none⟩ = some (.int .u64 n) ∧ v.cell? ⟨w.heap.size, 2, none⟩ = some (.bool o) ∧
    v.cell? ⟨w.heap.size + 1, 0, none⟩ = some (.int .i64 m) ∧ v.cell? ⟨w.heap.size + 1, 1, none⟩ = some (.int .u64 n) ∧ v.cell? ⟨w.heap.size + 1, 2, none⟩ = some (.bool o) :=
  ⟨h.1.three.1, h.1.three.2.1, h.1.three.2.2, h.2.1.three.1, h.2.1.three.2.1, h.2.1.three.2.2⟩
theorem Two.start (w : World) (m n : Int) (o : Bool) : Two w ((w.alloc (.cells #[.int .i64 m, .int .u64 n, .bool o] 54)).alloc (.cells #[.int .i64 m, .int .u64 n, .bool o] 55)) m n o := by
  refine ⟨(Blk.new _ _ _).alloc _, ?_, ((Below.refl _ _).alloc (Nat.le_refl _) _).alloc (by simp) _⟩
  have := Blk.new (w.alloc (.cells #[.int .i64 m, .int .u64 n, .bool o] 54)) 55 #[.int .i64 m, .int .u64 n, .bool o]
  rwa [World.size_alloc] at this

set_option maxRecDepth 100000 in
set_option maxHeartbeats 1000000 in
theorem walk (m n : Int) (o : Bool) (w : World) (_hm : -9223372036854775808 ≤ m ∧ m ≤ 9223372036854775807) (hn : 0 ≤ n ∧ n ≤ 18446744073709551615) :
    Calls Try.prog 7 #[.agg #[.int .i64 m, .int .u64 n, .bool o]] w fun e w' => e = .returned (.bool true) ∧ Below w.heap.size w w' := by
  have HT0 := Lib.hid (Two.start w m n o)
  have HSz := Lib.hid (fun W => HeadA.size_any m n o W hn.1 hn.2)
  have hse : HeadP.right m n o = false → HeadP.size m n o = 0 := fun h => by unfold HeadP.size; rw [if_neg (by simp [h])]
  have HSE := Lib.hid hse
  clear hse
  cases hr : HeadP.right m n o
  · go_enter Try.func7, Try.ntmps7
    go_wp2_with fail
    refine (HeadW.write_no m n o _ hr).mono ?_
    rintro e w1 ⟨rfl, hb1⟩
    have HT1 := Lib.hid (HT0.out.next hb1)
    obtain ⟨a0, a1, a2, b0, b1, b2⟩ := HT1.out.cells
    clear hb1 HT0
    go_wp2_with fail
    refine (RefHead.right_any m n o _).mono ?_
    rintro e w2 ⟨rfl, hb2⟩
    have HT2 := Lib.hid (HT1.out.next hb2)
    clear hb2 HT1 a0 a1 a2 b0 b1 b2
    obtain ⟨a0, a1, a2, b0, b1, b2⟩ := HT2.out.cells
    go_wp2_with fail
    refine (alive_any _).mono ?_
    rintro e w3 ⟨rfl, hb3⟩
    have HT3 := Lib.hid (HT2.out.next hb3)
    clear hb3 HT2 a0 a1 a2 b0 b1 b2
    obtain ⟨a0, a1, a2, b0, b1, b2⟩ := HT3.out.cells
    go_wp2_with fail
    refine (HeadA.right_any m n o _).mono ?_
    rintro e w4 ⟨rfl, hb4⟩
    have HT4 := Lib.hid (HT3.out.next hb4)
    clear hb4 HT3 a0 a1 a2 b0 b1 b2
    obtain ⟨a0, a1, a2, b0, b1, b2⟩ := HT4.out.cells
    go_wp2_with fail
    refine (HSz.out _).mono ?_
    rintro e w5 ⟨rfl, hb5⟩
    rw [HSE.out hr]
    have HT5 := Lib.hid (HT4.out.next hb5)
    clear hb5 HT4 a0 a1 a2 b0 b1 b2
    go_wp2_with fail
    go_ret
    exact ⟨rfl, HT5.out.2.2⟩
  · have hsz := HeadP.size_bytes m n o hr
    have hbb := HeadP.bytes_bound m n o hr hn.1
    have hW := fun W => HeadW.write_yes m n o W hr hn.1 hn.2
    have hV := fun W => RefHead.write_any m n o W hr hn.1 hn.2
    rw [hsz] at HSz
    generalize HeadP.bytes m n o = bs at *
    have hq := St.nums_beq bs bs hbb hbb
    simp only [decide_true] at hq
    have HQ := Lib.hid hq
    have HW := Lib.hid hW
    have HV := Lib.hid hV
    clear hsz hbb hq hW hV HSE
    go_enter Try.func7, Try.ntmps7
    go_wp2_with fail
    refine (HW.out _).mono ?_
    rintro e w1 ⟨v, rfl, ho, hb1⟩
    obtain ⟨A, c, rfl, _, _, hl⟩ := own_slice ho
    have HL1 := Lib.hid (Lst.of_own ho)
    have HT1 := Lib.hid (HT0.out.next hb1)
    obtain ⟨a0, a1, a2, b0, b1, b2⟩ := HT1.out.cells
    clear hb1 HT0 ho hl
    go_wp2_with fail
    refine (RefHead.right_any m n o _).mono ?_
    rintro e w2 ⟨rfl, hb2⟩
    have HT2 := Lib.hid (HT1.out.next hb2)
    have HB12 := Lib.hid hb2
    clear hb2 HT1 a0 a1 a2 b0 b1 b2
    obtain ⟨a0, a1, a2, b0, b1, b2⟩ := HT2.out.cells
    go_wp2_with fail
    refine (HV.out _).mono ?_
    rintro e w3 ⟨A3, c3, rfl, hl3, hb3⟩
    have HL3 := Lib.hid hl3
    have HT3 := Lib.hid (HT2.out.next hb3)
    have HB13 := Lib.hid (below_next HB12.out HB12.out.size hb3)
    clear hb3 hl3 HT2 a0 a1 a2 b0 b1 b2
    obtain ⟨a0, a1, a2, b0, b1, b2⟩ := HT3.out.cells
    go_wp2_with fail
    refine (alive_any _).mono ?_
    rintro e w4 ⟨rfl, hb4⟩
    have HT4 := Lib.hid (HT3.out.next hb4)
    have HB34 := Lib.hid hb4
    clear hb4 HT3 a0 a1 a2 b0 b1 b2
    obtain ⟨a0, a1, a2, b0, b1, b2⟩ := HT4.out.cells
    go_wp2_with fail
    refine (HeadA.right_any m n o _).mono ?_
    rintro e w5 ⟨rfl, hb5⟩
    have HT5 := Lib.hid (HT4.out.next hb5)
    have HB35 := Lib.hid (below_next HB34.out HB34.out.size hb5)
    clear hb5 HT4 a0 a1 a2 b0 b1 b2
    obtain ⟨a0, a1, a2, b0, b1, b2⟩ := HT5.out.cells
    go_wp2_with fail
    refine (HSz.out _).mono ?_
    rintro e w6 ⟨rfl, hb6⟩
    have HT6 := Lib.hid (HT5.out.next hb6)
    have hb36 := below_next HB35.out HB35.out.size hb6
    have c1 := run_string (P := Try.prog) (HL1.out.below (HB13.out.trans (hb36.mono HB13.out.size))) _ _ _ Try.underlying22 Try.underlying5 Try.underlying9 c
    have c2 := run_string (P := Try.prog) (HL3.out.below hb36) _ _ _ Try.underlying22 Try.underlying5 Try.underlying9 c3
    have q := HQ.out
    clear hb6 hb36 HT5 a0 a1 a2 b0 b1 b2
    go_wp2_with fail
    go_ret
    exact ⟨rfl, HT6.out.2.2⟩
end Go.Proofs.Ytgjihjijlhdjdaa.HeadWrites
