/- Contracts of the plain functions of package head (no memory). -/
import Derived.Test.YtoieadbifhealaaDoorShelf
import Derived.Test.YtoieadbifhealaaDoorHeadPure
import Derived.Test.YtoieadbifhealaaDoorWords
import Derived.WalkKit
import Derived.WalkSpells
import Derived.Lib.Hide
import Derived.Outline
import Derived.Deep.QuietTactic
import Derived.BigQuiet
namespace Go.Proofs.YtoieadbifhealaaDoor.HeadA
open Go.RowKit Wd


theorem mayOpen_any (m : Int) (w : World) : Calls Tryd.prog 110 #[.int .i64 m] w fun e w' => e = .returned (.bool (HeadP.mayOpen m)) ∧ w = w' := by
  go_enter Tryd.func110, Tryd.ntmps110
  go_wp2
  all_goals go_ret
  all_goals exact ⟨ret_bool (by simp [HeadP.mayOpen, *] <;> omega), rfl⟩

theorem following_any (l : Int) (w : World) (h0 : 0 ≤ l) (h1 : l ≤ 31) : Calls Tryd.prog 93 #[.int .i64 l] w fun e w' => e = .returned (.int .i64 (HeadP.following l)) ∧ w = w' := by
  by_cases a : l < 24
  · go_enter Tryd.func93, Tryd.ntmps93
    go_wp2
    go_ret
    exact ⟨ret_int (by unfold HeadP.following; rw [if_neg (by omega), if_neg (by omega), if_neg (by omega), if_neg (by omega)]), rfl⟩
  by_cases b : 27 < l
  · go_enter Tryd.func93, Tryd.ntmps93
    go_wp2
    go_ret
    exact ⟨ret_int (by unfold HeadP.following; rw [if_neg (by omega), if_neg (by omega), if_neg (by omega), if_neg (by omega)]), rfl⟩
  have : l = 24 ∨ l = 25 ∨ l = 26 ∨ l = 27 := by omega
  clear a b h0 h1
  rcases this with rfl | rfl | rfl | rfl
  all_goals
    go_enter Tryd.func93, Tryd.ntmps93
    go_wp2
    go_ret
    exact ⟨rfl, rfl⟩

/-- 'lowBits': below 24. -/
theorem lowBits_any (m n : Int) (o : Bool) (w : World) (h0 : 0 ≤ n) (h1 : n ≤ 18446744073709551615) :
    Calls Tryd.prog 92 #[.agg #[.int .i64 m, .int .u64 n, .bool o]] w fun e w' => e = .returned (.int .i64 (HeadP.low n o)) ∧ Below w.heap.size w w' := by
  cases o
  · by_cases a : n < 24
    · go_enter Tryd.func92, Tryd.ntmps92
      go_wp2_with fail
      go_ret
      exact ⟨ret_int (by simp [HeadP.low, HeadP.lowN, a]), (Below.refl _ _).alloc (Nat.le_refl _) _⟩
    · have hb := Lib.hid (HeadP.bitLen_lowN n h0 h1)
      go_enter Tryd.func92, Tryd.ntmps92
      go_wp2_with fail
      refine (Tryd.bits_Len64 n _ h0 h1).mono ?_
      rintro e w' ⟨rfl, rfl⟩
      have hb := hb.out
      generalize (Lib.bitLen n.toNat : Int) = L at *
      go_wp2_with fail
      all_goals go_ret
      all_goals exact ⟨ret_int (by simp only [HeadP.low, HeadP.lowN, Bool.false_eq_true, if_false]; rw [if_neg (by omega)]; (repeat' split) <;> omega), (Below.refl _ _).alloc (Nat.le_refl _) _⟩
  · go_enter Tryd.func92, Tryd.ntmps92
    go_wp2_with fail
    go_ret
    exact ⟨rfl, (Below.refl _ _).alloc (Nat.le_refl _) _⟩

theorem right_any (m n : Int) (o : Bool) (w : World) :
    Calls Tryd.prog 91 #[.agg #[.int .i64 m, .int .u64 n, .bool o]] w fun e w' => e = .returned (.bool (HeadP.right m n o)) ∧ Below w.heap.size w w' := by
  cases o
  · go_enter Tryd.func91, Tryd.ntmps91
    go_wp2_with fail
    all_goals go_ret
    all_goals exact ⟨ret_bool (by simp [HeadP.right] <;> omega), (Below.refl _ _).alloc (Nat.le_refl _) _⟩
  · go_enter Tryd.func91, Tryd.ntmps91
    go_wp2_with (go_at_call 110; refine (mayOpen_any _ _).mono ?_; rintro e w' ⟨rfl, rfl⟩)
    all_goals go_ret
    all_goals exact ⟨ret_bool (by simp [HeadP.right, *]), (Below.refl _ _).alloc (Nat.le_refl _) _⟩


end Go.Proofs.YtoieadbifhealaaDoor.HeadA
