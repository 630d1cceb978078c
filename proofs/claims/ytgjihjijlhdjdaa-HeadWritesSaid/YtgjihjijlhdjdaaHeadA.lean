/- Contracts of the plain functions of package head (no memory). -/
import Derived.Test.YtgjihjijlhdjdaaShelf
import Derived.Test.YtgjihjijlhdjdaaHeadPure
import Derived.Test.YtgjihjijlhdjdaaWords
import Derived.WalkKit
import Derived.WalkSpells
import Derived.Lib.Hide
import Derived.Outline
import Derived.Deep.QuietTactic
import Derived.BigQuiet
namespace Go.Proofs.Ytgjihjijlhdjdaa.HeadA
open Go.RowKit Wd


theorem mayOpen_any (m : Int) (w : World) : Calls Try.prog 36 #[.int .i64 m] w fun e w' => e = .returned (.bool (HeadP.mayOpen m)) ∧ w = w' := by
  go_enter Try.func36, Try.ntmps36
  go_wp2
  all_goals go_ret
  all_goals exact ⟨ret_bool (by simp [HeadP.mayOpen, *] <;> omega), rfl⟩

theorem following_any (l : Int) (w : World) (h0 : 0 ≤ l) (h1 : l ≤ 31) : Calls Try.prog 35 #[.int .i64 l] w fun e w' => e = .returned (.int .i64 (HeadP.following l)) ∧ w = w' := by
  by_cases a : l < 24
  · go_enter Try.func35, Try.ntmps35
    go_wp2
    go_ret
    exact ⟨ret_int (by unfold HeadP.following; rw [if_neg (by omega), if_neg (by omega), if_neg (by omega), if_neg (by omega)]), rfl⟩
  by_cases b : 27 < l
  · go_enter Try.func35, Try.ntmps35
    go_wp2
    go_ret
    exact ⟨ret_int (by unfold HeadP.following; rw [if_neg (by omega), if_neg (by omega), if_neg (by omega), if_neg (by omega)]), rfl⟩
  have : l = 24 ∨ l = 25 ∨ l = 26 ∨ l = 27 := by omega
  clear a b h0 h1
  rcases this with rfl | rfl | rfl | rfl
  all_goals
    go_enter Try.func35, Try.ntmps35
    go_wp2
    go_ret
    exact ⟨rfl, rfl⟩

/-- 'lowBits': below 24. -/
theorem lowBits_any (m n : Int) (o : Bool) (w : World) (h0 : 0 ≤ n) (h1 : n ≤ 18446744073709551615) :
    Calls Try.prog 34 #[.agg #[.int .i64 m, .int .u64 n, .bool o]] w fun e w' => e = .returned (.int .i64 (HeadP.low n o)) ∧ Below w.heap.size w w' := by
  cases o
  · by_cases a : n < 24
    · go_enter Try.func34, Try.ntmps34
      go_wp2_with fail
      go_ret
      exact ⟨ret_int (by simp [HeadP.low, HeadP.lowN, a]), (Below.refl _ _).alloc (Nat.le_refl _) _⟩
    · have hb := Lib.hid (HeadP.bitLen_lowN n h0 h1)
      go_enter Try.func34, Try.ntmps34
      go_wp2_with fail
      refine (Try.bits_Len64 n _ h0 h1).mono ?_
      rintro e w' ⟨rfl, rfl⟩
      have hb := hb.out
      generalize (Lib.bitLen n.toNat : Int) = L at *
      go_wp2_with fail
      all_goals go_ret
      all_goals exact ⟨ret_int (by simp only [HeadP.low, HeadP.lowN, Bool.false_eq_true, if_false]; rw [if_neg (by omega)]; (repeat' split) <;> omega), (Below.refl _ _).alloc (Nat.le_refl _) _⟩
  · go_enter Try.func34, Try.ntmps34
    go_wp2_with fail
    go_ret
    exact ⟨rfl, (Below.refl _ _).alloc (Nat.le_refl _) _⟩

theorem right_any (m n : Int) (o : Bool) (w : World) :
    Calls Try.prog 21 #[.agg #[.int .i64 m, .int .u64 n, .bool o]] w fun e w' => e = .returned (.bool (HeadP.right m n o)) ∧ Below w.heap.size w w' := by
  cases o
  · go_enter Try.func21, Try.ntmps21
    go_wp2_with fail
    all_goals go_ret
    all_goals exact ⟨ret_bool (by simp [HeadP.right] <;> omega), (Below.refl _ _).alloc (Nat.le_refl _) _⟩
  · go_enter Try.func21, Try.ntmps21
    go_wp2_with (go_at_call 36; refine (mayOpen_any _ _).mono ?_; rintro e w' ⟨rfl, rfl⟩)
    all_goals go_ret
    all_goals exact ⟨ret_bool (by simp [HeadP.right, *]), (Below.refl _ _).alloc (Nat.le_refl _) _⟩

theorem size_any (m n : Int) (o : Bool) (w : World) (h0 : 0 ≤ n) (h1 : n ≤ 18446744073709551615) :
    Calls Try.prog 22 #[.agg #[.int .i64 m, .int .u64 n, .bool o]] w fun e w' => e = .returned (.int .i64 (HeadP.size m n o)) ∧ Below w.heap.size w w' := by
  have hl := HeadP.low_le n o h0
  have hf := HeadP.following_le (HeadP.low n o)
  go_enter Try.func22, Try.ntmps22
  go_wp2_with fail
  refine (right_any m n o _).mono ?_
  rintro e w1 ⟨rfl, hb1⟩
  obtain ⟨c0, c1, c2, hs, hb⟩ := box3 hb1
  clear hb1
  have hB := Lib.hid hb
  by_cases hr : HeadP.right m n o = true
  · go_wp2_with fail
    refine (lowBits_any m n o _ h0 h1).mono ?_
    rintro e w2 ⟨rfl, hb2⟩
    have hB2 := Lib.hid (below_next hb (by omega) hb2)
    clear hb hb2
    go_wp2_with fail
    refine (following_any _ _ hl.1 hl.2).mono ?_
    rintro e w3 ⟨rfl, rfl⟩
    go_wp2_with fail
    go_ret
    exact ⟨ret_int (by simp [HeadP.size, hr]), hB2.out⟩
  · have hr' : HeadP.right m n o = false := by simpa using hr
    clear hb
    go_wp2_with fail
    go_ret
    exact ⟨ret_int (by simp [HeadP.size, hr']), hB.out⟩

end Go.Proofs.Ytgjihjijlhdjdaa.HeadA
