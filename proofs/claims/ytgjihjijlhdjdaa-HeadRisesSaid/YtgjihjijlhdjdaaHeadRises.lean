/- The walk of the statement HeadRises. -/
import Derived.Test.YtgjihjijlhdjdaaHeadAlive
namespace Go.Proofs.Ytgjihjijlhdjdaa.HeadRises
open Go.RowKit Wd HeadAlive

set_option maxRecDepth 100000 in
set_option maxHeartbeats 400000 in
theorem walk_bad (a n m : Int) (w : World) (ha : a < 0 ∨ 7 < a) :
    Calls Try.prog 10 #[.int .i64 a, .int .u64 n, .int .u64 m] w fun e w' => e = .returned (.bool true) ∧ Below w.heap.size w w' := by
  have hr : ∀ n, HeadP.right a n false = false := by intro n; simp [HeadP.right]; omega
  have r1 := hr n
  have r2 := hr m
  clear hr
  rcases ha with ha | ha
  all_goals
    go_enter Try.func10, Try.ntmps10
    go_wp2_with fail
    refine (HeadW.write_no a n false _ r1).mono ?_
    rintro e w1 ⟨rfl, hb1⟩
    have HB1 := Lib.hid hb1
    clear hb1
    go_wp2_with fail
    refine (HeadW.write_no a m false _ r2).mono ?_
    rintro e w2 ⟨rfl, hb2⟩
    have HB2 := Lib.hid (below_next HB1.out HB1.out.size hb2)
    clear hb2
    go_wp2_with fail
    refine (alive_any _).mono ?_
    rintro e w3 ⟨rfl, hb3⟩
    have HB3 := Lib.hid (below_next HB2.out HB2.out.size hb3)
    clear hb3
    go_wp2_with fail
    go_ret
    exact ⟨rfl, HB3.out⟩

set_option maxRecDepth 100000 in
set_option maxHeartbeats 1000000 in
theorem walk_good (a n m : Int) (w : World) (h0 : 0 ≤ a) (h7 : a ≤ 7) (n0 : 0 ≤ n) (n1 : n ≤ 18446744073709551615) (m0 : 0 ≤ m) (m1 : m ≤ 18446744073709551615) :
    Calls Try.prog 10 #[.int .i64 a, .int .u64 n, .int .u64 m] w fun e w' => e = .returned (.bool true) ∧ Below w.heap.size w w' := by
  have hr : ∀ n, HeadP.right a n false = true := by intro n; simp [HeadP.right]; omega
  have r1 := hr n
  have r2 := hr m
  have b1 := HeadP.bytes_bound a n false r1 n0
  have b2 := HeadP.bytes_bound a m false r2 m0
  have hk : HeadP.size a 0 true = 0 ∨ HeadP.size a 0 true = 1 := by
    unfold HeadP.size; split <;> simp [HeadP.low, HeadP.following]
  have hlt := HeadP.bytes_less a n m n0
  have heq : n = m → HeadP.bytes a n false = HeadP.bytes a m false := fun h => by rw [h]
  have HW1 := fun W => HeadW.write_yes a n false W r1 n0 n1
  have HW2 := fun W => HeadW.write_yes a m false W r2 m0 m1
  have HSz := fun W => HeadA.size_any a 0 true W (by omega) (by omega)
  generalize HeadP.bytes a n false = xs at *
  generalize HeadP.bytes a m false = ys at *
  generalize HeadP.size a 0 true = k at *
  have H1 := Lib.hid HW1
  have H2 := Lib.hid HW2
  have H3 := Lib.hid HSz
  have HL := Lib.hid hlt
  have HE := Lib.hid heq
  clear HW1 HW2 HSz r1 r2 hr hlt heq
  go_enter Try.func10, Try.ntmps10
  go_wp2_with fail
  refine (H1.out _).mono ?_
  rintro e w1 ⟨v, rfl, ho, hb1⟩
  obtain ⟨A, c, rfl, _, _, hl⟩ := own_slice ho
  have HO := Lib.hid ho
  have HB1 := Lib.hid hb1
  clear ho hb1 hl
  go_wp2_with fail
  refine (H2.out _).mono ?_
  rintro e w2 ⟨v, rfl, hp, hb2⟩
  obtain ⟨B, d, rfl, _, _, hl⟩ := own_slice hp
  have HP := Lib.hid hp
  have HB2 := Lib.hid hb2
  clear hp hb2 hl
  go_wp2_with fail
  refine (H3.out _).mono ?_
  rintro e w3 ⟨rfl, hb3⟩
  have HB3 := Lib.hid hb3
  clear hb3
  go_wp2_with fail
  refine (alive_any _).mono ?_
  rintro e w4 ⟨rfl, hb4⟩
  have s1 := HB1.out.size
  have s2 := HB2.out.size
  have s3 := HB3.out.size
  have HB24 := Lib.hid (below_next HB3.out s3 hb4)
  have HB14 := Lib.hid (HB2.out.trans (HB24.out.mono s2))
  have HB := Lib.hid (HB1.out.trans (HB14.out.mono s1))
  clear hb4
  have c1 := str_of HO.out rfl HB14.out
  have c2 := str_of HP.out rfl HB24.out
  have q1 := St.less_nums xs ys b1 b2
  have q2 := St.nums_beq xs ys b1 b2
  clear s1 s2 s3 b1 b2
  by_cases hnm : n < m
  · obtain ⟨u1, u2⟩ := HL.out hnm m1
    rw [u1] at q1
    clear q2
    have hne : (n != m) = true := by simp; omega
    rcases hk with rfl | rfl
    all_goals
      go_wp2_with fail
      go_ret
      exact ⟨rfl, HB.out⟩
  by_cases he : n = m
  · obtain rfl := HE.out he
    subst he
    simp only [decide_true] at q2
    clear q1
    rcases hk with rfl | rfl
    all_goals
      go_wp2_with fail
      go_ret
      exact ⟨rfl, HB.out⟩
  · clear q1 q2
    have hge : m ≤ n := by omega
    have hne : (n != m) = true := by simp; omega
    rcases hk with rfl | rfl
    all_goals
      go_wp2_with fail
      go_ret
      exact ⟨rfl, HB.out⟩

theorem walk (a n m : Int) (w : World) (_ha : -9223372036854775808 ≤ a ∧ a ≤ 9223372036854775807) (hn : 0 ≤ n ∧ n ≤ 18446744073709551615) (hm : 0 ≤ m ∧ m ≤ 18446744073709551615) :
    Calls Try.prog 10 #[.int .i64 a, .int .u64 n, .int .u64 m] w fun e w' => e = .returned (.bool true) ∧ Below w.heap.size w w' := by
  by_cases h : a < 0 ∨ 7 < a
  · exact walk_bad a n m w h
  · exact walk_good a n m w (by omega) (by omega) hn.1 hn.2 hm.1 hm.2
end Go.Proofs.Ytgjihjijlhdjdaa.HeadRises
