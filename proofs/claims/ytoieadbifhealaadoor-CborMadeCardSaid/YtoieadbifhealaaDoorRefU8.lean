/- The document's own UTF-8: within, point, Valid. -/
import Derived.Test.YtoieadbifhealaaDoorU8V
namespace Go.Proofs.YtoieadbifhealaaDoor.RefU8
open Go.RowKit Wd Cb U8V

theorem within_any (x a b : Int) (w : World) : Calls Tryd.prog 113 #[.int .u8 x, .int .u8 a, .int .u8 b] w fun e w' => e = .returned (.bool (decide (a ≤ x ∧ x ≤ b))) ∧ w = w' := by
  go_enter Tryd.func113, Tryd.ntmps113
  go_wp2_with fail
  all_goals go_ret
  all_goals exact ⟨ret_bool (by first | (simp [*]; done) | (simp [*]; omega)), rfl⟩
theorem within_yes (x a b : Int) (w : World) (h : a ≤ x ∧ x ≤ b) : Calls Tryd.prog 113 #[.int .u8 x, .int .u8 a, .int .u8 b] w fun e w' => e = .returned (.bool true) ∧ w = w' :=
  (within_any x a b w).mono fun e w' ⟨h1, h2⟩ => ⟨by rw [h1, decide_eq_true h], h2⟩
theorem within_no (x a b : Int) (w : World) (h : ¬ (a ≤ x ∧ x ≤ b)) : Calls Tryd.prog 113 #[.int .u8 x, .int .u8 a, .int .u8 b] w fun e w' => e = .returned (.bool false) ∧ w = w' :=
  (within_any x a b w).mono fun e w' ⟨h1, h2⟩ => ⟨by rw [h1, decide_eq_false h], h2⟩

set_option maxHeartbeats 1000000 in
theorem point_0 (b o c : Nat) (l : List Int) (w : World) (x0 : Int) (hx : l.getD 0 0 = x0) (hl : 0 < l.length) (hm : l.length ≤ 9223372036854775807) (hb : St.bts l) (hc : ∀ j, j < l.length → w.cell? ⟨b, o + j, none⟩ = some (.int .u8 (l.getD j 0))) (hr : 128 ≤ x0 ∧ x0 ≤ 193) (hr2 : x0 ≤ 255) :
    Calls Tryd.prog 95 #[.slice (some ⟨b, o, none⟩) l.length c] w fun e w' => e = .returned (.int .i64 (U8.pt l)) ∧ w = w' := by
  have hcn : U8.cnt x0 = 0 := by unfold U8.cnt; (repeat' split) <;> omega
  have e0 : w.cell? ⟨b, o, none⟩ = some (.int .u8 x0) := by rw [← hx]; simpa using hc 0 hl
  have hl0 : (0 : Int) < (l.length : Int) := by omega
  have hp : ((U8.pt l : Nat) : Int) = 0 := by unfold U8.pt; rw [if_neg (by omega), if_pos (by unfold U8.bad; rw [hx, hcn]; omega)]; rfl
  have HP := Lib.hid hp
  clear hp hcn hx hb hc
  have d224 : (x0 == 224) = false := by simp; omega
  have d237 : (x0 == 237) = false := by simp; omega
  have d240 : (x0 == 240) = false := by simp; omega
  have d244 : (x0 == 244) = false := by simp; omega
  go_enter Tryd.func95, Tryd.ntmps95
  go_wp2_with (go_at_call 113; first | ((with_reducible refine (within_yes _ _ _ _ (by omega)).mono ?_); rintro e w' ⟨rfl, rfl⟩) | ((with_reducible refine (within_no _ _ _ _ (by omega)).mono ?_); rintro e w' ⟨rfl, rfl⟩))
  go_ret
  exact ⟨ret_int HP.out.symm, rfl⟩
set_option maxHeartbeats 1000000 in
theorem point_1 (b o c : Nat) (l : List Int) (w : World) (x0 : Int) (hx : l.getD 0 0 = x0) (hl : 0 < l.length) (hm : l.length ≤ 9223372036854775807) (hb : St.bts l) (hc : ∀ j, j < l.length → w.cell? ⟨b, o + j, none⟩ = some (.int .u8 (l.getD j 0))) (hr : 245 ≤ x0) (hr2 : x0 ≤ 255) :
    Calls Tryd.prog 95 #[.slice (some ⟨b, o, none⟩) l.length c] w fun e w' => e = .returned (.int .i64 (U8.pt l)) ∧ w = w' := by
  have hcn : U8.cnt x0 = 0 := by unfold U8.cnt; (repeat' split) <;> omega
  have e0 : w.cell? ⟨b, o, none⟩ = some (.int .u8 x0) := by rw [← hx]; simpa using hc 0 hl
  have hl0 : (0 : Int) < (l.length : Int) := by omega
  have hp : ((U8.pt l : Nat) : Int) = 0 := by unfold U8.pt; rw [if_neg (by omega), if_pos (by unfold U8.bad; rw [hx, hcn]; omega)]; rfl
  have HP := Lib.hid hp
  clear hp hcn hx hb hc
  have d224 : (x0 == 224) = false := by simp; omega
  have d237 : (x0 == 237) = false := by simp; omega
  have d240 : (x0 == 240) = false := by simp; omega
  have d244 : (x0 == 244) = false := by simp; omega
  go_enter Tryd.func95, Tryd.ntmps95
  go_wp2_with (go_at_call 113; first | ((with_reducible refine (within_yes _ _ _ _ (by omega)).mono ?_); rintro e w' ⟨rfl, rfl⟩) | ((with_reducible refine (within_no _ _ _ _ (by omega)).mono ?_); rintro e w' ⟨rfl, rfl⟩))
  go_ret
  exact ⟨ret_int HP.out.symm, rfl⟩
set_option maxHeartbeats 1000000 in
theorem point_2 (b o c : Nat) (l : List Int) (w : World) (x0 : Int) (hx : l.getD 0 0 = x0) (hl : 0 < l.length) (hm : l.length ≤ 9223372036854775807) (hb : St.bts l) (hc : ∀ j, j < l.length → w.cell? ⟨b, o + j, none⟩ = some (.int .u8 (l.getD j 0))) (hr : 194 ≤ x0 ∧ x0 ≤ 223) (hr2 : x0 ≤ 255) :
    Calls Tryd.prog 95 #[.slice (some ⟨b, o, none⟩) l.length c] w fun e w' => e = .returned (.int .i64 (U8.pt l)) ∧ w = w' := by
  have hcn : U8.cnt x0 = 2 := by unfold U8.cnt; (repeat' split) <;> omega
  have hlo : U8.low x0 = 128 := by unfold U8.low; (repeat' split) <;> omega
  have hhi : U8.high x0 = 191 := by unfold U8.high; (repeat' split) <;> omega
  have e0 : w.cell? ⟨b, o, none⟩ = some (.int .u8 x0) := by rw [← hx]; simpa using hc 0 hl
  have hl0 : (0 : Int) < (l.length : Int) := by omega
  have hbad : l.length < 2 ∨ l.getD 1 0 < 128 ∨ 191 < l.getD 1 0 → ((U8.pt l : Nat) : Int) = 0 := fun h => by unfold U8.pt; rw [if_neg (by omega), if_pos (by unfold U8.bad; rw [hx, hcn, hlo, hhi]; omega)]; rfl
  have hgood : ¬ (l.length < 2 ∨ l.getD 1 0 < 128 ∨ 191 < l.getD 1 0) → ((U8.pt l : Nat) : Int) = 2 := fun h => by unfold U8.pt; rw [if_neg (by omega), if_neg (by unfold U8.bad; rw [hx, hcn, hlo, hhi]; omega), hx, hcn]; rfl
  have HBD := Lib.hid hbad
  have HGD := Lib.hid hgood
  have HC := Lib.hid hc
  have HX := Lib.hid hb
  clear hbad hgood hc hb hcn hlo hhi hx
  have d224 : (x0 == 224) = false := by simp; omega
  have d237 : (x0 == 237) = false := by simp; omega
  have d240 : (x0 == 240) = false := by simp; omega
  have d244 : (x0 == 244) = false := by simp; omega
  by_cases q0 : l.length < 2
  · have q0z : decide ((l.length : Int) < 2) = true := decide_eq_true (by omega)
    go_enter Tryd.func95, Tryd.ntmps95
    go_wp2_with (go_at_call 113; first | ((with_reducible refine (within_yes _ _ _ _ (by omega)).mono ?_); rintro e w' ⟨rfl, rfl⟩) | ((with_reducible refine (within_no _ _ _ _ (by omega)).mono ?_); rintro e w' ⟨rfl, rfl⟩))
    go_ret
    exact ⟨ret_int (HBD.out (by omega)).symm, rfl⟩
  · have q0z : decide ((l.length : Int) < 2) = false := decide_eq_false (by omega)
    have hz1 : (1 : Int) < (l.length : Int) := by omega
    have e1 := HC.out 1 (by omega)
    have y1 : 0 ≤ l.getD 1 0 ∧ l.getD 1 0 ≤ 255 := HX.out _ (by simp [List.getD, List.getElem?_eq_getElem (show 1 < l.length by omega)])
    generalize l.getD 1 0 = z1 at *
    by_cases q1 : z1 < 128
    · skip
      go_enter Tryd.func95, Tryd.ntmps95
      go_wp2_with (go_at_call 113; first | ((with_reducible refine (within_yes _ _ _ _ (by omega)).mono ?_); rintro e w' ⟨rfl, rfl⟩) | ((with_reducible refine (within_no _ _ _ _ (by omega)).mono ?_); rintro e w' ⟨rfl, rfl⟩))
      go_ret
      exact ⟨ret_int (HBD.out (by omega)).symm, rfl⟩
    · skip
      by_cases q2 : 191 < z1
      · skip
        go_enter Tryd.func95, Tryd.ntmps95
        go_wp2_with (go_at_call 113; first | ((with_reducible refine (within_yes _ _ _ _ (by omega)).mono ?_); rintro e w' ⟨rfl, rfl⟩) | ((with_reducible refine (within_no _ _ _ _ (by omega)).mono ?_); rintro e w' ⟨rfl, rfl⟩))
        go_ret
        exact ⟨ret_int (HBD.out (by omega)).symm, rfl⟩
      · skip
        go_enter Tryd.func95, Tryd.ntmps95
        go_wp2_with (go_at_call 113; first | ((with_reducible refine (within_yes _ _ _ _ (by omega)).mono ?_); rintro e w' ⟨rfl, rfl⟩) | ((with_reducible refine (within_no _ _ _ _ (by omega)).mono ?_); rintro e w' ⟨rfl, rfl⟩))
        refine wp_loop_rounds 1 ?_
        rw [rounds_succ]
        go_wp2_with (go_at_call 113; first | ((with_reducible refine (within_yes _ _ _ _ (by omega)).mono ?_); rintro e w' ⟨rfl, rfl⟩) | ((with_reducible refine (within_no _ _ _ _ (by omega)).mono ?_); rintro e w' ⟨rfl, rfl⟩))
        go_ret
        exact ⟨ret_int (HGD.out (by omega)).symm, rfl⟩
set_option maxHeartbeats 1000000 in
theorem point_3 (b o c : Nat) (l : List Int) (w : World) (x0 : Int) (hx : l.getD 0 0 = x0) (hl : 0 < l.length) (hm : l.length ≤ 9223372036854775807) (hb : St.bts l) (hc : ∀ j, j < l.length → w.cell? ⟨b, o + j, none⟩ = some (.int .u8 (l.getD j 0))) (hr : x0 = 224) (hr2 : x0 ≤ 255) :
    Calls Tryd.prog 95 #[.slice (some ⟨b, o, none⟩) l.length c] w fun e w' => e = .returned (.int .i64 (U8.pt l)) ∧ w = w' := by
  have hcn : U8.cnt x0 = 3 := by unfold U8.cnt; (repeat' split) <;> omega
  have hlo : U8.low x0 = 160 := by unfold U8.low; (repeat' split) <;> omega
  have hhi : U8.high x0 = 191 := by unfold U8.high; (repeat' split) <;> omega
  have e0 : w.cell? ⟨b, o, none⟩ = some (.int .u8 x0) := by rw [← hx]; simpa using hc 0 hl
  have hl0 : (0 : Int) < (l.length : Int) := by omega
  have hbad : l.length < 3 ∨ l.getD 1 0 < 160 ∨ 191 < l.getD 1 0 ∨ l.getD 2 0 < 128 ∨ 191 < l.getD 2 0 → ((U8.pt l : Nat) : Int) = 0 := fun h => by unfold U8.pt; rw [if_neg (by omega), if_pos (by unfold U8.bad; rw [hx, hcn, hlo, hhi]; omega)]; rfl
  have hgood : ¬ (l.length < 3 ∨ l.getD 1 0 < 160 ∨ 191 < l.getD 1 0 ∨ l.getD 2 0 < 128 ∨ 191 < l.getD 2 0) → ((U8.pt l : Nat) : Int) = 3 := fun h => by unfold U8.pt; rw [if_neg (by omega), if_neg (by unfold U8.bad; rw [hx, hcn, hlo, hhi]; omega), hx, hcn]; rfl
  have HBD := Lib.hid hbad
  have HGD := Lib.hid hgood
  have HC := Lib.hid hc
  have HX := Lib.hid hb
  clear hbad hgood hc hb hcn hlo hhi hx
  subst hr
  by_cases q0 : l.length < 3
  · have q0z : decide ((l.length : Int) < 3) = true := decide_eq_true (by omega)
    go_enter Tryd.func95, Tryd.ntmps95
    go_wp2_with (go_at_call 113; first | ((with_reducible refine (within_yes _ _ _ _ (by omega)).mono ?_); rintro e w' ⟨rfl, rfl⟩) | ((with_reducible refine (within_no _ _ _ _ (by omega)).mono ?_); rintro e w' ⟨rfl, rfl⟩))
    go_ret
    exact ⟨ret_int (HBD.out (by omega)).symm, rfl⟩
  · have q0z : decide ((l.length : Int) < 3) = false := decide_eq_false (by omega)
    have hz1 : (1 : Int) < (l.length : Int) := by omega
    have e1 := HC.out 1 (by omega)
    have y1 : 0 ≤ l.getD 1 0 ∧ l.getD 1 0 ≤ 255 := HX.out _ (by simp [List.getD, List.getElem?_eq_getElem (show 1 < l.length by omega)])
    have hz2 : (2 : Int) < (l.length : Int) := by omega
    have e2 := HC.out 2 (by omega)
    have y2 : 0 ≤ l.getD 2 0 ∧ l.getD 2 0 ≤ 255 := HX.out _ (by simp [List.getD, List.getElem?_eq_getElem (show 2 < l.length by omega)])
    generalize l.getD 1 0 = z1 at *
    generalize l.getD 2 0 = z2 at *
    by_cases q1 : z1 < 160
    · skip
      go_enter Tryd.func95, Tryd.ntmps95
      go_wp2_with (go_at_call 113; first | ((with_reducible refine (within_yes _ _ _ _ (by omega)).mono ?_); rintro e w' ⟨rfl, rfl⟩) | ((with_reducible refine (within_no _ _ _ _ (by omega)).mono ?_); rintro e w' ⟨rfl, rfl⟩))
      go_ret
      exact ⟨ret_int (HBD.out (by omega)).symm, rfl⟩
    · skip
      by_cases q2 : 191 < z1
      · skip
        go_enter Tryd.func95, Tryd.ntmps95
        go_wp2_with (go_at_call 113; first | ((with_reducible refine (within_yes _ _ _ _ (by omega)).mono ?_); rintro e w' ⟨rfl, rfl⟩) | ((with_reducible refine (within_no _ _ _ _ (by omega)).mono ?_); rintro e w' ⟨rfl, rfl⟩))
        go_ret
        exact ⟨ret_int (HBD.out (by omega)).symm, rfl⟩
      · skip
        by_cases q3 : z2 < 128
        · skip
          go_enter Tryd.func95, Tryd.ntmps95
          go_wp2_with (go_at_call 113; first | ((with_reducible refine (within_yes _ _ _ _ (by omega)).mono ?_); rintro e w' ⟨rfl, rfl⟩) | ((with_reducible refine (within_no _ _ _ _ (by omega)).mono ?_); rintro e w' ⟨rfl, rfl⟩))
          refine wp_loop_rounds 1 ?_
          rw [rounds_succ]
          go_wp2_with (go_at_call 113; first | ((with_reducible refine (within_yes _ _ _ _ (by omega)).mono ?_); rintro e w' ⟨rfl, rfl⟩) | ((with_reducible refine (within_no _ _ _ _ (by omega)).mono ?_); rintro e w' ⟨rfl, rfl⟩))
          go_ret
          exact ⟨ret_int (HBD.out (by omega)).symm, rfl⟩
        · skip
          by_cases q4 : 191 < z2
          · skip
            go_enter Tryd.func95, Tryd.ntmps95
            go_wp2_with (go_at_call 113; first | ((with_reducible refine (within_yes _ _ _ _ (by omega)).mono ?_); rintro e w' ⟨rfl, rfl⟩) | ((with_reducible refine (within_no _ _ _ _ (by omega)).mono ?_); rintro e w' ⟨rfl, rfl⟩))
            refine wp_loop_rounds 1 ?_
            rw [rounds_succ]
            go_wp2_with (go_at_call 113; first | ((with_reducible refine (within_yes _ _ _ _ (by omega)).mono ?_); rintro e w' ⟨rfl, rfl⟩) | ((with_reducible refine (within_no _ _ _ _ (by omega)).mono ?_); rintro e w' ⟨rfl, rfl⟩))
            go_ret
            exact ⟨ret_int (HBD.out (by omega)).symm, rfl⟩
          · skip
            go_enter Tryd.func95, Tryd.ntmps95
            go_wp2_with (go_at_call 113; first | ((with_reducible refine (within_yes _ _ _ _ (by omega)).mono ?_); rintro e w' ⟨rfl, rfl⟩) | ((with_reducible refine (within_no _ _ _ _ (by omega)).mono ?_); rintro e w' ⟨rfl, rfl⟩))
            refine wp_loop_rounds 2 ?_
            rw [rounds_succ]
            go_wp2_with (go_at_call 113; first | ((with_reducible refine (within_yes _ _ _ _ (by omega)).mono ?_); rintro e w' ⟨rfl, rfl⟩) | ((with_reducible refine (within_no _ _ _ _ (by omega)).mono ?_); rintro e w' ⟨rfl, rfl⟩))
            rw [rounds_succ]
            go_wp2_with (go_at_call 113; first | ((with_reducible refine (within_yes _ _ _ _ (by omega)).mono ?_); rintro e w' ⟨rfl, rfl⟩) | ((with_reducible refine (within_no _ _ _ _ (by omega)).mono ?_); rintro e w' ⟨rfl, rfl⟩))
            go_ret
            exact ⟨ret_int (HGD.out (by omega)).symm, rfl⟩
set_option maxHeartbeats 1000000 in
theorem point_4 (b o c : Nat) (l : List Int) (w : World) (x0 : Int) (hx : l.getD 0 0 = x0) (hl : 0 < l.length) (hm : l.length ≤ 9223372036854775807) (hb : St.bts l) (hc : ∀ j, j < l.length → w.cell? ⟨b, o + j, none⟩ = some (.int .u8 (l.getD j 0))) (hr : x0 = 237) (hr2 : x0 ≤ 255) :
    Calls Tryd.prog 95 #[.slice (some ⟨b, o, none⟩) l.length c] w fun e w' => e = .returned (.int .i64 (U8.pt l)) ∧ w = w' := by
  have hcn : U8.cnt x0 = 3 := by unfold U8.cnt; (repeat' split) <;> omega
  have hlo : U8.low x0 = 128 := by unfold U8.low; (repeat' split) <;> omega
  have hhi : U8.high x0 = 159 := by unfold U8.high; (repeat' split) <;> omega
  have e0 : w.cell? ⟨b, o, none⟩ = some (.int .u8 x0) := by rw [← hx]; simpa using hc 0 hl
  have hl0 : (0 : Int) < (l.length : Int) := by omega
  have hbad : l.length < 3 ∨ l.getD 1 0 < 128 ∨ 159 < l.getD 1 0 ∨ l.getD 2 0 < 128 ∨ 191 < l.getD 2 0 → ((U8.pt l : Nat) : Int) = 0 := fun h => by unfold U8.pt; rw [if_neg (by omega), if_pos (by unfold U8.bad; rw [hx, hcn, hlo, hhi]; omega)]; rfl
  have hgood : ¬ (l.length < 3 ∨ l.getD 1 0 < 128 ∨ 159 < l.getD 1 0 ∨ l.getD 2 0 < 128 ∨ 191 < l.getD 2 0) → ((U8.pt l : Nat) : Int) = 3 := fun h => by unfold U8.pt; rw [if_neg (by omega), if_neg (by unfold U8.bad; rw [hx, hcn, hlo, hhi]; omega), hx, hcn]; rfl
  have HBD := Lib.hid hbad
  have HGD := Lib.hid hgood
  have HC := Lib.hid hc
  have HX := Lib.hid hb
  clear hbad hgood hc hb hcn hlo hhi hx
  subst hr
  by_cases q0 : l.length < 3
  · have q0z : decide ((l.length : Int) < 3) = true := decide_eq_true (by omega)
    go_enter Tryd.func95, Tryd.ntmps95
    go_wp2_with (go_at_call 113; first | ((with_reducible refine (within_yes _ _ _ _ (by omega)).mono ?_); rintro e w' ⟨rfl, rfl⟩) | ((with_reducible refine (within_no _ _ _ _ (by omega)).mono ?_); rintro e w' ⟨rfl, rfl⟩))
    go_ret
    exact ⟨ret_int (HBD.out (by omega)).symm, rfl⟩
  · have q0z : decide ((l.length : Int) < 3) = false := decide_eq_false (by omega)
    have hz1 : (1 : Int) < (l.length : Int) := by omega
    have e1 := HC.out 1 (by omega)
    have y1 : 0 ≤ l.getD 1 0 ∧ l.getD 1 0 ≤ 255 := HX.out _ (by simp [List.getD, List.getElem?_eq_getElem (show 1 < l.length by omega)])
    have hz2 : (2 : Int) < (l.length : Int) := by omega
    have e2 := HC.out 2 (by omega)
    have y2 : 0 ≤ l.getD 2 0 ∧ l.getD 2 0 ≤ 255 := HX.out _ (by simp [List.getD, List.getElem?_eq_getElem (show 2 < l.length by omega)])
    generalize l.getD 1 0 = z1 at *
    generalize l.getD 2 0 = z2 at *
    by_cases q1 : z1 < 128
    · skip
      go_enter Tryd.func95, Tryd.ntmps95
      go_wp2_with (go_at_call 113; first | ((with_reducible refine (within_yes _ _ _ _ (by omega)).mono ?_); rintro e w' ⟨rfl, rfl⟩) | ((with_reducible refine (within_no _ _ _ _ (by omega)).mono ?_); rintro e w' ⟨rfl, rfl⟩))
      go_ret
      exact ⟨ret_int (HBD.out (by omega)).symm, rfl⟩
    · skip
      by_cases q2 : 159 < z1
      · skip
        go_enter Tryd.func95, Tryd.ntmps95
        go_wp2_with (go_at_call 113; first | ((with_reducible refine (within_yes _ _ _ _ (by omega)).mono ?_); rintro e w' ⟨rfl, rfl⟩) | ((with_reducible refine (within_no _ _ _ _ (by omega)).mono ?_); rintro e w' ⟨rfl, rfl⟩))
        go_ret
        exact ⟨ret_int (HBD.out (by omega)).symm, rfl⟩
      · skip
        by_cases q3 : z2 < 128
        · skip
          go_enter Tryd.func95, Tryd.ntmps95
          go_wp2_with (go_at_call 113; first | ((with_reducible refine (within_yes _ _ _ _ (by omega)).mono ?_); rintro e w' ⟨rfl, rfl⟩) | ((with_reducible refine (within_no _ _ _ _ (by omega)).mono ?_); rintro e w' ⟨rfl, rfl⟩))
          refine wp_loop_rounds 1 ?_
          rw [rounds_succ]
          go_wp2_with (go_at_call 113; first | ((with_reducible refine (within_yes _ _ _ _ (by omega)).mono ?_); rintro e w' ⟨rfl, rfl⟩) | ((with_reducible refine (within_no _ _ _ _ (by omega)).mono ?_); rintro e w' ⟨rfl, rfl⟩))
          go_ret
          exact ⟨ret_int (HBD.out (by omega)).symm, rfl⟩
        · skip
          by_cases q4 : 191 < z2
          · skip
            go_enter Tryd.func95, Tryd.ntmps95
            go_wp2_with (go_at_call 113; first | ((with_reducible refine (within_yes _ _ _ _ (by omega)).mono ?_); rintro e w' ⟨rfl, rfl⟩) | ((with_reducible refine (within_no _ _ _ _ (by omega)).mono ?_); rintro e w' ⟨rfl, rfl⟩))
            refine wp_loop_rounds 1 ?_
            rw [rounds_succ]
            go_wp2_with (go_at_call 113; first | ((with_reducible refine (within_yes _ _ _ _ (by omega)).mono ?_); rintro e w' ⟨rfl, rfl⟩) | ((with_reducible refine (within_no _ _ _ _ (by omega)).mono ?_); rintro e w' ⟨rfl, rfl⟩))
            go_ret
            exact ⟨ret_int (HBD.out (by omega)).symm, rfl⟩
          · skip
            go_enter Tryd.func95, Tryd.ntmps95
            go_wp2_with (go_at_call 113; first | ((with_reducible refine (within_yes _ _ _ _ (by omega)).mono ?_); rintro e w' ⟨rfl, rfl⟩) | ((with_reducible refine (within_no _ _ _ _ (by omega)).mono ?_); rintro e w' ⟨rfl, rfl⟩))
            refine wp_loop_rounds 2 ?_
            rw [rounds_succ]
            go_wp2_with (go_at_call 113; first | ((with_reducible refine (within_yes _ _ _ _ (by omega)).mono ?_); rintro e w' ⟨rfl, rfl⟩) | ((with_reducible refine (within_no _ _ _ _ (by omega)).mono ?_); rintro e w' ⟨rfl, rfl⟩))
            rw [rounds_succ]
            go_wp2_with (go_at_call 113; first | ((with_reducible refine (within_yes _ _ _ _ (by omega)).mono ?_); rintro e w' ⟨rfl, rfl⟩) | ((with_reducible refine (within_no _ _ _ _ (by omega)).mono ?_); rintro e w' ⟨rfl, rfl⟩))
            go_ret
            exact ⟨ret_int (HGD.out (by omega)).symm, rfl⟩
set_option maxHeartbeats 1000000 in
theorem point_5 (b o c : Nat) (l : List Int) (w : World) (x0 : Int) (hx : l.getD 0 0 = x0) (hl : 0 < l.length) (hm : l.length ≤ 9223372036854775807) (hb : St.bts l) (hc : ∀ j, j < l.length → w.cell? ⟨b, o + j, none⟩ = some (.int .u8 (l.getD j 0))) (hr : 224 ≤ x0 ∧ x0 ≤ 239 ∧ x0 ≠ 224 ∧ x0 ≠ 237) (hr2 : x0 ≤ 255) :
    Calls Tryd.prog 95 #[.slice (some ⟨b, o, none⟩) l.length c] w fun e w' => e = .returned (.int .i64 (U8.pt l)) ∧ w = w' := by
  have hcn : U8.cnt x0 = 3 := by unfold U8.cnt; (repeat' split) <;> omega
  have hlo : U8.low x0 = 128 := by unfold U8.low; (repeat' split) <;> omega
  have hhi : U8.high x0 = 191 := by unfold U8.high; (repeat' split) <;> omega
  have e0 : w.cell? ⟨b, o, none⟩ = some (.int .u8 x0) := by rw [← hx]; simpa using hc 0 hl
  have hl0 : (0 : Int) < (l.length : Int) := by omega
  have hbad : l.length < 3 ∨ l.getD 1 0 < 128 ∨ 191 < l.getD 1 0 ∨ l.getD 2 0 < 128 ∨ 191 < l.getD 2 0 → ((U8.pt l : Nat) : Int) = 0 := fun h => by unfold U8.pt; rw [if_neg (by omega), if_pos (by unfold U8.bad; rw [hx, hcn, hlo, hhi]; omega)]; rfl
  have hgood : ¬ (l.length < 3 ∨ l.getD 1 0 < 128 ∨ 191 < l.getD 1 0 ∨ l.getD 2 0 < 128 ∨ 191 < l.getD 2 0) → ((U8.pt l : Nat) : Int) = 3 := fun h => by unfold U8.pt; rw [if_neg (by omega), if_neg (by unfold U8.bad; rw [hx, hcn, hlo, hhi]; omega), hx, hcn]; rfl
  have HBD := Lib.hid hbad
  have HGD := Lib.hid hgood
  have HC := Lib.hid hc
  have HX := Lib.hid hb
  clear hbad hgood hc hb hcn hlo hhi hx
  have d224 : (x0 == 224) = false := by simp; omega
  have d237 : (x0 == 237) = false := by simp; omega
  have d240 : (x0 == 240) = false := by simp; omega
  have d244 : (x0 == 244) = false := by simp; omega
  by_cases q0 : l.length < 3
  · have q0z : decide ((l.length : Int) < 3) = true := decide_eq_true (by omega)
    go_enter Tryd.func95, Tryd.ntmps95
    go_wp2_with (go_at_call 113; first | ((with_reducible refine (within_yes _ _ _ _ (by omega)).mono ?_); rintro e w' ⟨rfl, rfl⟩) | ((with_reducible refine (within_no _ _ _ _ (by omega)).mono ?_); rintro e w' ⟨rfl, rfl⟩))
    go_ret
    exact ⟨ret_int (HBD.out (by omega)).symm, rfl⟩
  · have q0z : decide ((l.length : Int) < 3) = false := decide_eq_false (by omega)
    have hz1 : (1 : Int) < (l.length : Int) := by omega
    have e1 := HC.out 1 (by omega)
    have y1 : 0 ≤ l.getD 1 0 ∧ l.getD 1 0 ≤ 255 := HX.out _ (by simp [List.getD, List.getElem?_eq_getElem (show 1 < l.length by omega)])
    have hz2 : (2 : Int) < (l.length : Int) := by omega
    have e2 := HC.out 2 (by omega)
    have y2 : 0 ≤ l.getD 2 0 ∧ l.getD 2 0 ≤ 255 := HX.out _ (by simp [List.getD, List.getElem?_eq_getElem (show 2 < l.length by omega)])
    generalize l.getD 1 0 = z1 at *
    generalize l.getD 2 0 = z2 at *
    by_cases q1 : z1 < 128
    · skip
      go_enter Tryd.func95, Tryd.ntmps95
      go_wp2_with (go_at_call 113; first | ((with_reducible refine (within_yes _ _ _ _ (by omega)).mono ?_); rintro e w' ⟨rfl, rfl⟩) | ((with_reducible refine (within_no _ _ _ _ (by omega)).mono ?_); rintro e w' ⟨rfl, rfl⟩))
      go_ret
      exact ⟨ret_int (HBD.out (by omega)).symm, rfl⟩
    · skip
      by_cases q2 : 191 < z1
      · skip
        go_enter Tryd.func95, Tryd.ntmps95
        go_wp2_with (go_at_call 113; first | ((with_reducible refine (within_yes _ _ _ _ (by omega)).mono ?_); rintro e w' ⟨rfl, rfl⟩) | ((with_reducible refine (within_no _ _ _ _ (by omega)).mono ?_); rintro e w' ⟨rfl, rfl⟩))
        go_ret
        exact ⟨ret_int (HBD.out (by omega)).symm, rfl⟩
      · skip
        by_cases q3 : z2 < 128
        · skip
          go_enter Tryd.func95, Tryd.ntmps95
          go_wp2_with (go_at_call 113; first | ((with_reducible refine (within_yes _ _ _ _ (by omega)).mono ?_); rintro e w' ⟨rfl, rfl⟩) | ((with_reducible refine (within_no _ _ _ _ (by omega)).mono ?_); rintro e w' ⟨rfl, rfl⟩))
          refine wp_loop_rounds 1 ?_
          rw [rounds_succ]
          go_wp2_with (go_at_call 113; first | ((with_reducible refine (within_yes _ _ _ _ (by omega)).mono ?_); rintro e w' ⟨rfl, rfl⟩) | ((with_reducible refine (within_no _ _ _ _ (by omega)).mono ?_); rintro e w' ⟨rfl, rfl⟩))
          go_ret
          exact ⟨ret_int (HBD.out (by omega)).symm, rfl⟩
        · skip
          by_cases q4 : 191 < z2
          · skip
            go_enter Tryd.func95, Tryd.ntmps95
            go_wp2_with (go_at_call 113; first | ((with_reducible refine (within_yes _ _ _ _ (by omega)).mono ?_); rintro e w' ⟨rfl, rfl⟩) | ((with_reducible refine (within_no _ _ _ _ (by omega)).mono ?_); rintro e w' ⟨rfl, rfl⟩))
            refine wp_loop_rounds 1 ?_
            rw [rounds_succ]
            go_wp2_with (go_at_call 113; first | ((with_reducible refine (within_yes _ _ _ _ (by omega)).mono ?_); rintro e w' ⟨rfl, rfl⟩) | ((with_reducible refine (within_no _ _ _ _ (by omega)).mono ?_); rintro e w' ⟨rfl, rfl⟩))
            go_ret
            exact ⟨ret_int (HBD.out (by omega)).symm, rfl⟩
          · skip
            go_enter Tryd.func95, Tryd.ntmps95
            go_wp2_with (go_at_call 113; first | ((with_reducible refine (within_yes _ _ _ _ (by omega)).mono ?_); rintro e w' ⟨rfl, rfl⟩) | ((with_reducible refine (within_no _ _ _ _ (by omega)).mono ?_); rintro e w' ⟨rfl, rfl⟩))
            refine wp_loop_rounds 2 ?_
            rw [rounds_succ]
            go_wp2_with (go_at_call 113; first | ((with_reducible refine (within_yes _ _ _ _ (by omega)).mono ?_); rintro e w' ⟨rfl, rfl⟩) | ((with_reducible refine (within_no _ _ _ _ (by omega)).mono ?_); rintro e w' ⟨rfl, rfl⟩))
            rw [rounds_succ]
            go_wp2_with (go_at_call 113; first | ((with_reducible refine (within_yes _ _ _ _ (by omega)).mono ?_); rintro e w' ⟨rfl, rfl⟩) | ((with_reducible refine (within_no _ _ _ _ (by omega)).mono ?_); rintro e w' ⟨rfl, rfl⟩))
            go_ret
            exact ⟨ret_int (HGD.out (by omega)).symm, rfl⟩
set_option maxHeartbeats 1000000 in
theorem point_6 (b o c : Nat) (l : List Int) (w : World) (x0 : Int) (hx : l.getD 0 0 = x0) (hl : 0 < l.length) (hm : l.length ≤ 9223372036854775807) (hb : St.bts l) (hc : ∀ j, j < l.length → w.cell? ⟨b, o + j, none⟩ = some (.int .u8 (l.getD j 0))) (hr : x0 = 240) (hr2 : x0 ≤ 255) :
    Calls Tryd.prog 95 #[.slice (some ⟨b, o, none⟩) l.length c] w fun e w' => e = .returned (.int .i64 (U8.pt l)) ∧ w = w' := by
  have hcn : U8.cnt x0 = 4 := by unfold U8.cnt; (repeat' split) <;> omega
  have hlo : U8.low x0 = 144 := by unfold U8.low; (repeat' split) <;> omega
  have hhi : U8.high x0 = 191 := by unfold U8.high; (repeat' split) <;> omega
  have e0 : w.cell? ⟨b, o, none⟩ = some (.int .u8 x0) := by rw [← hx]; simpa using hc 0 hl
  have hl0 : (0 : Int) < (l.length : Int) := by omega
  have hbad : l.length < 4 ∨ l.getD 1 0 < 144 ∨ 191 < l.getD 1 0 ∨ l.getD 2 0 < 128 ∨ 191 < l.getD 2 0 ∨ l.getD 3 0 < 128 ∨ 191 < l.getD 3 0 → ((U8.pt l : Nat) : Int) = 0 := fun h => by unfold U8.pt; rw [if_neg (by omega), if_pos (by unfold U8.bad; rw [hx, hcn, hlo, hhi]; omega)]; rfl
  have hgood : ¬ (l.length < 4 ∨ l.getD 1 0 < 144 ∨ 191 < l.getD 1 0 ∨ l.getD 2 0 < 128 ∨ 191 < l.getD 2 0 ∨ l.getD 3 0 < 128 ∨ 191 < l.getD 3 0) → ((U8.pt l : Nat) : Int) = 4 := fun h => by unfold U8.pt; rw [if_neg (by omega), if_neg (by unfold U8.bad; rw [hx, hcn, hlo, hhi]; omega), hx, hcn]; rfl
  have HBD := Lib.hid hbad
  have HGD := Lib.hid hgood
  have HC := Lib.hid hc
  have HX := Lib.hid hb
  clear hbad hgood hc hb hcn hlo hhi hx
  subst hr
  by_cases q0 : l.length < 4
  · have q0z : decide ((l.length : Int) < 4) = true := decide_eq_true (by omega)
    go_enter Tryd.func95, Tryd.ntmps95
    go_wp2_with (go_at_call 113; first | ((with_reducible refine (within_yes _ _ _ _ (by omega)).mono ?_); rintro e w' ⟨rfl, rfl⟩) | ((with_reducible refine (within_no _ _ _ _ (by omega)).mono ?_); rintro e w' ⟨rfl, rfl⟩))
    go_ret
    exact ⟨ret_int (HBD.out (by omega)).symm, rfl⟩
  · have q0z : decide ((l.length : Int) < 4) = false := decide_eq_false (by omega)
    have hz1 : (1 : Int) < (l.length : Int) := by omega
    have e1 := HC.out 1 (by omega)
    have y1 : 0 ≤ l.getD 1 0 ∧ l.getD 1 0 ≤ 255 := HX.out _ (by simp [List.getD, List.getElem?_eq_getElem (show 1 < l.length by omega)])
    have hz2 : (2 : Int) < (l.length : Int) := by omega
    have e2 := HC.out 2 (by omega)
    have y2 : 0 ≤ l.getD 2 0 ∧ l.getD 2 0 ≤ 255 := HX.out _ (by simp [List.getD, List.getElem?_eq_getElem (show 2 < l.length by omega)])
    have hz3 : (3 : Int) < (l.length : Int) := by omega
    have e3 := HC.out 3 (by omega)
    have y3 : 0 ≤ l.getD 3 0 ∧ l.getD 3 0 ≤ 255 := HX.out _ (by simp [List.getD, List.getElem?_eq_getElem (show 3 < l.length by omega)])
    generalize l.getD 1 0 = z1 at *
    generalize l.getD 2 0 = z2 at *
    generalize l.getD 3 0 = z3 at *
    by_cases q1 : z1 < 144
    · skip
      go_enter Tryd.func95, Tryd.ntmps95
      go_wp2_with (go_at_call 113; first | ((with_reducible refine (within_yes _ _ _ _ (by omega)).mono ?_); rintro e w' ⟨rfl, rfl⟩) | ((with_reducible refine (within_no _ _ _ _ (by omega)).mono ?_); rintro e w' ⟨rfl, rfl⟩))
      go_ret
      exact ⟨ret_int (HBD.out (by omega)).symm, rfl⟩
    · skip
      by_cases q2 : 191 < z1
      · skip
        go_enter Tryd.func95, Tryd.ntmps95
        go_wp2_with (go_at_call 113; first | ((with_reducible refine (within_yes _ _ _ _ (by omega)).mono ?_); rintro e w' ⟨rfl, rfl⟩) | ((with_reducible refine (within_no _ _ _ _ (by omega)).mono ?_); rintro e w' ⟨rfl, rfl⟩))
        go_ret
        exact ⟨ret_int (HBD.out (by omega)).symm, rfl⟩
      · skip
        by_cases q3 : z2 < 128
        · skip
          go_enter Tryd.func95, Tryd.ntmps95
          go_wp2_with (go_at_call 113; first | ((with_reducible refine (within_yes _ _ _ _ (by omega)).mono ?_); rintro e w' ⟨rfl, rfl⟩) | ((with_reducible refine (within_no _ _ _ _ (by omega)).mono ?_); rintro e w' ⟨rfl, rfl⟩))
          refine wp_loop_rounds 1 ?_
          rw [rounds_succ]
          go_wp2_with (go_at_call 113; first | ((with_reducible refine (within_yes _ _ _ _ (by omega)).mono ?_); rintro e w' ⟨rfl, rfl⟩) | ((with_reducible refine (within_no _ _ _ _ (by omega)).mono ?_); rintro e w' ⟨rfl, rfl⟩))
          go_ret
          exact ⟨ret_int (HBD.out (by omega)).symm, rfl⟩
        · skip
          by_cases q4 : 191 < z2
          · skip
            go_enter Tryd.func95, Tryd.ntmps95
            go_wp2_with (go_at_call 113; first | ((with_reducible refine (within_yes _ _ _ _ (by omega)).mono ?_); rintro e w' ⟨rfl, rfl⟩) | ((with_reducible refine (within_no _ _ _ _ (by omega)).mono ?_); rintro e w' ⟨rfl, rfl⟩))
            refine wp_loop_rounds 1 ?_
            rw [rounds_succ]
            go_wp2_with (go_at_call 113; first | ((with_reducible refine (within_yes _ _ _ _ (by omega)).mono ?_); rintro e w' ⟨rfl, rfl⟩) | ((with_reducible refine (within_no _ _ _ _ (by omega)).mono ?_); rintro e w' ⟨rfl, rfl⟩))
            go_ret
            exact ⟨ret_int (HBD.out (by omega)).symm, rfl⟩
          · skip
            by_cases q5 : z3 < 128
            · skip
              go_enter Tryd.func95, Tryd.ntmps95
              go_wp2_with (go_at_call 113; first | ((with_reducible refine (within_yes _ _ _ _ (by omega)).mono ?_); rintro e w' ⟨rfl, rfl⟩) | ((with_reducible refine (within_no _ _ _ _ (by omega)).mono ?_); rintro e w' ⟨rfl, rfl⟩))
              refine wp_loop_rounds 2 ?_
              rw [rounds_succ]
              go_wp2_with (go_at_call 113; first | ((with_reducible refine (within_yes _ _ _ _ (by omega)).mono ?_); rintro e w' ⟨rfl, rfl⟩) | ((with_reducible refine (within_no _ _ _ _ (by omega)).mono ?_); rintro e w' ⟨rfl, rfl⟩))
              rw [rounds_succ]
              go_wp2_with (go_at_call 113; first | ((with_reducible refine (within_yes _ _ _ _ (by omega)).mono ?_); rintro e w' ⟨rfl, rfl⟩) | ((with_reducible refine (within_no _ _ _ _ (by omega)).mono ?_); rintro e w' ⟨rfl, rfl⟩))
              go_ret
              exact ⟨ret_int (HBD.out (by omega)).symm, rfl⟩
            · skip
              by_cases q6 : 191 < z3
              · skip
                go_enter Tryd.func95, Tryd.ntmps95
                go_wp2_with (go_at_call 113; first | ((with_reducible refine (within_yes _ _ _ _ (by omega)).mono ?_); rintro e w' ⟨rfl, rfl⟩) | ((with_reducible refine (within_no _ _ _ _ (by omega)).mono ?_); rintro e w' ⟨rfl, rfl⟩))
                refine wp_loop_rounds 2 ?_
                rw [rounds_succ]
                go_wp2_with (go_at_call 113; first | ((with_reducible refine (within_yes _ _ _ _ (by omega)).mono ?_); rintro e w' ⟨rfl, rfl⟩) | ((with_reducible refine (within_no _ _ _ _ (by omega)).mono ?_); rintro e w' ⟨rfl, rfl⟩))
                rw [rounds_succ]
                go_wp2_with (go_at_call 113; first | ((with_reducible refine (within_yes _ _ _ _ (by omega)).mono ?_); rintro e w' ⟨rfl, rfl⟩) | ((with_reducible refine (within_no _ _ _ _ (by omega)).mono ?_); rintro e w' ⟨rfl, rfl⟩))
                go_ret
                exact ⟨ret_int (HBD.out (by omega)).symm, rfl⟩
              · skip
                go_enter Tryd.func95, Tryd.ntmps95
                go_wp2_with (go_at_call 113; first | ((with_reducible refine (within_yes _ _ _ _ (by omega)).mono ?_); rintro e w' ⟨rfl, rfl⟩) | ((with_reducible refine (within_no _ _ _ _ (by omega)).mono ?_); rintro e w' ⟨rfl, rfl⟩))
                refine wp_loop_rounds 3 ?_
                rw [rounds_succ]
                go_wp2_with (go_at_call 113; first | ((with_reducible refine (within_yes _ _ _ _ (by omega)).mono ?_); rintro e w' ⟨rfl, rfl⟩) | ((with_reducible refine (within_no _ _ _ _ (by omega)).mono ?_); rintro e w' ⟨rfl, rfl⟩))
                rw [rounds_succ]
                go_wp2_with (go_at_call 113; first | ((with_reducible refine (within_yes _ _ _ _ (by omega)).mono ?_); rintro e w' ⟨rfl, rfl⟩) | ((with_reducible refine (within_no _ _ _ _ (by omega)).mono ?_); rintro e w' ⟨rfl, rfl⟩))
                rw [rounds_succ]
                go_wp2_with (go_at_call 113; first | ((with_reducible refine (within_yes _ _ _ _ (by omega)).mono ?_); rintro e w' ⟨rfl, rfl⟩) | ((with_reducible refine (within_no _ _ _ _ (by omega)).mono ?_); rintro e w' ⟨rfl, rfl⟩))
                go_ret
                exact ⟨ret_int (HGD.out (by omega)).symm, rfl⟩
set_option maxHeartbeats 1000000 in
theorem point_7 (b o c : Nat) (l : List Int) (w : World) (x0 : Int) (hx : l.getD 0 0 = x0) (hl : 0 < l.length) (hm : l.length ≤ 9223372036854775807) (hb : St.bts l) (hc : ∀ j, j < l.length → w.cell? ⟨b, o + j, none⟩ = some (.int .u8 (l.getD j 0))) (hr : x0 = 244) (hr2 : x0 ≤ 255) :
    Calls Tryd.prog 95 #[.slice (some ⟨b, o, none⟩) l.length c] w fun e w' => e = .returned (.int .i64 (U8.pt l)) ∧ w = w' := by
  have hcn : U8.cnt x0 = 4 := by unfold U8.cnt; (repeat' split) <;> omega
  have hlo : U8.low x0 = 128 := by unfold U8.low; (repeat' split) <;> omega
  have hhi : U8.high x0 = 143 := by unfold U8.high; (repeat' split) <;> omega
  have e0 : w.cell? ⟨b, o, none⟩ = some (.int .u8 x0) := by rw [← hx]; simpa using hc 0 hl
  have hl0 : (0 : Int) < (l.length : Int) := by omega
  have hbad : l.length < 4 ∨ l.getD 1 0 < 128 ∨ 143 < l.getD 1 0 ∨ l.getD 2 0 < 128 ∨ 191 < l.getD 2 0 ∨ l.getD 3 0 < 128 ∨ 191 < l.getD 3 0 → ((U8.pt l : Nat) : Int) = 0 := fun h => by unfold U8.pt; rw [if_neg (by omega), if_pos (by unfold U8.bad; rw [hx, hcn, hlo, hhi]; omega)]; rfl
  have hgood : ¬ (l.length < 4 ∨ l.getD 1 0 < 128 ∨ 143 < l.getD 1 0 ∨ l.getD 2 0 < 128 ∨ 191 < l.getD 2 0 ∨ l.getD 3 0 < 128 ∨ 191 < l.getD 3 0) → ((U8.pt l : Nat) : Int) = 4 := fun h => by unfold U8.pt; rw [if_neg (by omega), if_neg (by unfold U8.bad; rw [hx, hcn, hlo, hhi]; omega), hx, hcn]; rfl
  have HBD := Lib.hid hbad
  have HGD := Lib.hid hgood
  have HC := Lib.hid hc
  have HX := Lib.hid hb
  clear hbad hgood hc hb hcn hlo hhi hx
  subst hr
  by_cases q0 : l.length < 4
  · have q0z : decide ((l.length : Int) < 4) = true := decide_eq_true (by omega)
    go_enter Tryd.func95, Tryd.ntmps95
    go_wp2_with (go_at_call 113; first | ((with_reducible refine (within_yes _ _ _ _ (by omega)).mono ?_); rintro e w' ⟨rfl, rfl⟩) | ((with_reducible refine (within_no _ _ _ _ (by omega)).mono ?_); rintro e w' ⟨rfl, rfl⟩))
    go_ret
    exact ⟨ret_int (HBD.out (by omega)).symm, rfl⟩
  · have q0z : decide ((l.length : Int) < 4) = false := decide_eq_false (by omega)
    have hz1 : (1 : Int) < (l.length : Int) := by omega
    have e1 := HC.out 1 (by omega)
    have y1 : 0 ≤ l.getD 1 0 ∧ l.getD 1 0 ≤ 255 := HX.out _ (by simp [List.getD, List.getElem?_eq_getElem (show 1 < l.length by omega)])
    have hz2 : (2 : Int) < (l.length : Int) := by omega
    have e2 := HC.out 2 (by omega)
    have y2 : 0 ≤ l.getD 2 0 ∧ l.getD 2 0 ≤ 255 := HX.out _ (by simp [List.getD, List.getElem?_eq_getElem (show 2 < l.length by omega)])
    have hz3 : (3 : Int) < (l.length : Int) := by omega
    have e3 := HC.out 3 (by omega)
    have y3 : 0 ≤ l.getD 3 0 ∧ l.getD 3 0 ≤ 255 := HX.out _ (by simp [List.getD, List.getElem?_eq_getElem (show 3 < l.length by omega)])
    generalize l.getD 1 0 = z1 at *
    generalize l.getD 2 0 = z2 at *
    generalize l.getD 3 0 = z3 at *
    by_cases q1 : z1 < 128
    · skip
      go_enter Tryd.func95, Tryd.ntmps95
      go_wp2_with (go_at_call 113; first | ((with_reducible refine (within_yes _ _ _ _ (by omega)).mono ?_); rintro e w' ⟨rfl, rfl⟩) | ((with_reducible refine (within_no _ _ _ _ (by omega)).mono ?_); rintro e w' ⟨rfl, rfl⟩))
      go_ret
      exact ⟨ret_int (HBD.out (by omega)).symm, rfl⟩
    · skip
      by_cases q2 : 143 < z1
      · skip
        go_enter Tryd.func95, Tryd.ntmps95
        go_wp2_with (go_at_call 113; first | ((with_reducible refine (within_yes _ _ _ _ (by omega)).mono ?_); rintro e w' ⟨rfl, rfl⟩) | ((with_reducible refine (within_no _ _ _ _ (by omega)).mono ?_); rintro e w' ⟨rfl, rfl⟩))
        go_ret
        exact ⟨ret_int (HBD.out (by omega)).symm, rfl⟩
      · skip
        by_cases q3 : z2 < 128
        · skip
          go_enter Tryd.func95, Tryd.ntmps95
          go_wp2_with (go_at_call 113; first | ((with_reducible refine (within_yes _ _ _ _ (by omega)).mono ?_); rintro e w' ⟨rfl, rfl⟩) | ((with_reducible refine (within_no _ _ _ _ (by omega)).mono ?_); rintro e w' ⟨rfl, rfl⟩))
          refine wp_loop_rounds 1 ?_
          rw [rounds_succ]
          go_wp2_with (go_at_call 113; first | ((with_reducible refine (within_yes _ _ _ _ (by omega)).mono ?_); rintro e w' ⟨rfl, rfl⟩) | ((with_reducible refine (within_no _ _ _ _ (by omega)).mono ?_); rintro e w' ⟨rfl, rfl⟩))
          go_ret
          exact ⟨ret_int (HBD.out (by omega)).symm, rfl⟩
        · skip
          by_cases q4 : 191 < z2
          · skip
            go_enter Tryd.func95, Tryd.ntmps95
            go_wp2_with (go_at_call 113; first | ((with_reducible refine (within_yes _ _ _ _ (by omega)).mono ?_); rintro e w' ⟨rfl, rfl⟩) | ((with_reducible refine (within_no _ _ _ _ (by omega)).mono ?_); rintro e w' ⟨rfl, rfl⟩))
            refine wp_loop_rounds 1 ?_
            rw [rounds_succ]
            go_wp2_with (go_at_call 113; first | ((with_reducible refine (within_yes _ _ _ _ (by omega)).mono ?_); rintro e w' ⟨rfl, rfl⟩) | ((with_reducible refine (within_no _ _ _ _ (by omega)).mono ?_); rintro e w' ⟨rfl, rfl⟩))
            go_ret
            exact ⟨ret_int (HBD.out (by omega)).symm, rfl⟩
          · skip
            by_cases q5 : z3 < 128
            · skip
              go_enter Tryd.func95, Tryd.ntmps95
              go_wp2_with (go_at_call 113; first | ((with_reducible refine (within_yes _ _ _ _ (by omega)).mono ?_); rintro e w' ⟨rfl, rfl⟩) | ((with_reducible refine (within_no _ _ _ _ (by omega)).mono ?_); rintro e w' ⟨rfl, rfl⟩))
              refine wp_loop_rounds 2 ?_
              rw [rounds_succ]
              go_wp2_with (go_at_call 113; first | ((with_reducible refine (within_yes _ _ _ _ (by omega)).mono ?_); rintro e w' ⟨rfl, rfl⟩) | ((with_reducible refine (within_no _ _ _ _ (by omega)).mono ?_); rintro e w' ⟨rfl, rfl⟩))
              rw [rounds_succ]
              go_wp2_with (go_at_call 113; first | ((with_reducible refine (within_yes _ _ _ _ (by omega)).mono ?_); rintro e w' ⟨rfl, rfl⟩) | ((with_reducible refine (within_no _ _ _ _ (by omega)).mono ?_); rintro e w' ⟨rfl, rfl⟩))
              go_ret
              exact ⟨ret_int (HBD.out (by omega)).symm, rfl⟩
            · skip
              by_cases q6 : 191 < z3
              · skip
                go_enter Tryd.func95, Tryd.ntmps95
                go_wp2_with (go_at_call 113; first | ((with_reducible refine (within_yes _ _ _ _ (by omega)).mono ?_); rintro e w' ⟨rfl, rfl⟩) | ((with_reducible refine (within_no _ _ _ _ (by omega)).mono ?_); rintro e w' ⟨rfl, rfl⟩))
                refine wp_loop_rounds 2 ?_
                rw [rounds_succ]
                go_wp2_with (go_at_call 113; first | ((with_reducible refine (within_yes _ _ _ _ (by omega)).mono ?_); rintro e w' ⟨rfl, rfl⟩) | ((with_reducible refine (within_no _ _ _ _ (by omega)).mono ?_); rintro e w' ⟨rfl, rfl⟩))
                rw [rounds_succ]
                go_wp2_with (go_at_call 113; first | ((with_reducible refine (within_yes _ _ _ _ (by omega)).mono ?_); rintro e w' ⟨rfl, rfl⟩) | ((with_reducible refine (within_no _ _ _ _ (by omega)).mono ?_); rintro e w' ⟨rfl, rfl⟩))
                go_ret
                exact ⟨ret_int (HBD.out (by omega)).symm, rfl⟩
              · skip
                go_enter Tryd.func95, Tryd.ntmps95
                go_wp2_with (go_at_call 113; first | ((with_reducible refine (within_yes _ _ _ _ (by omega)).mono ?_); rintro e w' ⟨rfl, rfl⟩) | ((with_reducible refine (within_no _ _ _ _ (by omega)).mono ?_); rintro e w' ⟨rfl, rfl⟩))
                refine wp_loop_rounds 3 ?_
                rw [rounds_succ]
                go_wp2_with (go_at_call 113; first | ((with_reducible refine (within_yes _ _ _ _ (by omega)).mono ?_); rintro e w' ⟨rfl, rfl⟩) | ((with_reducible refine (within_no _ _ _ _ (by omega)).mono ?_); rintro e w' ⟨rfl, rfl⟩))
                rw [rounds_succ]
                go_wp2_with (go_at_call 113; first | ((with_reducible refine (within_yes _ _ _ _ (by omega)).mono ?_); rintro e w' ⟨rfl, rfl⟩) | ((with_reducible refine (within_no _ _ _ _ (by omega)).mono ?_); rintro e w' ⟨rfl, rfl⟩))
                rw [rounds_succ]
                go_wp2_with (go_at_call 113; first | ((with_reducible refine (within_yes _ _ _ _ (by omega)).mono ?_); rintro e w' ⟨rfl, rfl⟩) | ((with_reducible refine (within_no _ _ _ _ (by omega)).mono ?_); rintro e w' ⟨rfl, rfl⟩))
                go_ret
                exact ⟨ret_int (HGD.out (by omega)).symm, rfl⟩
set_option maxHeartbeats 1000000 in
theorem point_8 (b o c : Nat) (l : List Int) (w : World) (x0 : Int) (hx : l.getD 0 0 = x0) (hl : 0 < l.length) (hm : l.length ≤ 9223372036854775807) (hb : St.bts l) (hc : ∀ j, j < l.length → w.cell? ⟨b, o + j, none⟩ = some (.int .u8 (l.getD j 0))) (hr : 241 ≤ x0 ∧ x0 ≤ 243) (hr2 : x0 ≤ 255) :
    Calls Tryd.prog 95 #[.slice (some ⟨b, o, none⟩) l.length c] w fun e w' => e = .returned (.int .i64 (U8.pt l)) ∧ w = w' := by
  have hcn : U8.cnt x0 = 4 := by unfold U8.cnt; (repeat' split) <;> omega
  have hlo : U8.low x0 = 128 := by unfold U8.low; (repeat' split) <;> omega
  have hhi : U8.high x0 = 191 := by unfold U8.high; (repeat' split) <;> omega
  have e0 : w.cell? ⟨b, o, none⟩ = some (.int .u8 x0) := by rw [← hx]; simpa using hc 0 hl
  have hl0 : (0 : Int) < (l.length : Int) := by omega
  have hbad : l.length < 4 ∨ l.getD 1 0 < 128 ∨ 191 < l.getD 1 0 ∨ l.getD 2 0 < 128 ∨ 191 < l.getD 2 0 ∨ l.getD 3 0 < 128 ∨ 191 < l.getD 3 0 → ((U8.pt l : Nat) : Int) = 0 := fun h => by unfold U8.pt; rw [if_neg (by omega), if_pos (by unfold U8.bad; rw [hx, hcn, hlo, hhi]; omega)]; rfl
  have hgood : ¬ (l.length < 4 ∨ l.getD 1 0 < 128 ∨ 191 < l.getD 1 0 ∨ l.getD 2 0 < 128 ∨ 191 < l.getD 2 0 ∨ l.getD 3 0 < 128 ∨ 191 < l.getD 3 0) → ((U8.pt l : Nat) : Int) = 4 := fun h => by unfold U8.pt; rw [if_neg (by omega), if_neg (by unfold U8.bad; rw [hx, hcn, hlo, hhi]; omega), hx, hcn]; rfl
  have HBD := Lib.hid hbad
  have HGD := Lib.hid hgood
  have HC := Lib.hid hc
  have HX := Lib.hid hb
  clear hbad hgood hc hb hcn hlo hhi hx
  have d224 : (x0 == 224) = false := by simp; omega
  have d237 : (x0 == 237) = false := by simp; omega
  have d240 : (x0 == 240) = false := by simp; omega
  have d244 : (x0 == 244) = false := by simp; omega
  by_cases q0 : l.length < 4
  · have q0z : decide ((l.length : Int) < 4) = true := decide_eq_true (by omega)
    go_enter Tryd.func95, Tryd.ntmps95
    go_wp2_with (go_at_call 113; first | ((with_reducible refine (within_yes _ _ _ _ (by omega)).mono ?_); rintro e w' ⟨rfl, rfl⟩) | ((with_reducible refine (within_no _ _ _ _ (by omega)).mono ?_); rintro e w' ⟨rfl, rfl⟩))
    go_ret
    exact ⟨ret_int (HBD.out (by omega)).symm, rfl⟩
  · have q0z : decide ((l.length : Int) < 4) = false := decide_eq_false (by omega)
    have hz1 : (1 : Int) < (l.length : Int) := by omega
    have e1 := HC.out 1 (by omega)
    have y1 : 0 ≤ l.getD 1 0 ∧ l.getD 1 0 ≤ 255 := HX.out _ (by simp [List.getD, List.getElem?_eq_getElem (show 1 < l.length by omega)])
    have hz2 : (2 : Int) < (l.length : Int) := by omega
    have e2 := HC.out 2 (by omega)
    have y2 : 0 ≤ l.getD 2 0 ∧ l.getD 2 0 ≤ 255 := HX.out _ (by simp [List.getD, List.getElem?_eq_getElem (show 2 < l.length by omega)])
    have hz3 : (3 : Int) < (l.length : Int) := by omega
    have e3 := HC.out 3 (by omega)
    have y3 : 0 ≤ l.getD 3 0 ∧ l.getD 3 0 ≤ 255 := HX.out _ (by simp [List.getD, List.getElem?_eq_getElem (show 3 < l.length by omega)])
    generalize l.getD 1 0 = z1 at *
    generalize l.getD 2 0 = z2 at *
    generalize l.getD 3 0 = z3 at *
    by_cases q1 : z1 < 128
    · skip
      go_enter Tryd.func95, Tryd.ntmps95
      go_wp2_with (go_at_call 113; first | ((with_reducible refine (within_yes _ _ _ _ (by omega)).mono ?_); rintro e w' ⟨rfl, rfl⟩) | ((with_reducible refine (within_no _ _ _ _ (by omega)).mono ?_); rintro e w' ⟨rfl, rfl⟩))
      go_ret
      exact ⟨ret_int (HBD.out (by omega)).symm, rfl⟩
    · skip
      by_cases q2 : 191 < z1
      · skip
        go_enter Tryd.func95, Tryd.ntmps95
        go_wp2_with (go_at_call 113; first | ((with_reducible refine (within_yes _ _ _ _ (by omega)).mono ?_); rintro e w' ⟨rfl, rfl⟩) | ((with_reducible refine (within_no _ _ _ _ (by omega)).mono ?_); rintro e w' ⟨rfl, rfl⟩))
        go_ret
        exact ⟨ret_int (HBD.out (by omega)).symm, rfl⟩
      · skip
        by_cases q3 : z2 < 128
        · skip
          go_enter Tryd.func95, Tryd.ntmps95
          go_wp2_with (go_at_call 113; first | ((with_reducible refine (within_yes _ _ _ _ (by omega)).mono ?_); rintro e w' ⟨rfl, rfl⟩) | ((with_reducible refine (within_no _ _ _ _ (by omega)).mono ?_); rintro e w' ⟨rfl, rfl⟩))
          refine wp_loop_rounds 1 ?_
          rw [rounds_succ]
          go_wp2_with (go_at_call 113; first | ((with_reducible refine (within_yes _ _ _ _ (by omega)).mono ?_); rintro e w' ⟨rfl, rfl⟩) | ((with_reducible refine (within_no _ _ _ _ (by omega)).mono ?_); rintro e w' ⟨rfl, rfl⟩))
          go_ret
          exact ⟨ret_int (HBD.out (by omega)).symm, rfl⟩
        · skip
          by_cases q4 : 191 < z2
          · skip
            go_enter Tryd.func95, Tryd.ntmps95
            go_wp2_with (go_at_call 113; first | ((with_reducible refine (within_yes _ _ _ _ (by omega)).mono ?_); rintro e w' ⟨rfl, rfl⟩) | ((with_reducible refine (within_no _ _ _ _ (by omega)).mono ?_); rintro e w' ⟨rfl, rfl⟩))
            refine wp_loop_rounds 1 ?_
            rw [rounds_succ]
            go_wp2_with (go_at_call 113; first | ((with_reducible refine (within_yes _ _ _ _ (by omega)).mono ?_); rintro e w' ⟨rfl, rfl⟩) | ((with_reducible refine (within_no _ _ _ _ (by omega)).mono ?_); rintro e w' ⟨rfl, rfl⟩))
            go_ret
            exact ⟨ret_int (HBD.out (by omega)).symm, rfl⟩
          · skip
            by_cases q5 : z3 < 128
            · skip
              go_enter Tryd.func95, Tryd.ntmps95
              go_wp2_with (go_at_call 113; first | ((with_reducible refine (within_yes _ _ _ _ (by omega)).mono ?_); rintro e w' ⟨rfl, rfl⟩) | ((with_reducible refine (within_no _ _ _ _ (by omega)).mono ?_); rintro e w' ⟨rfl, rfl⟩))
              refine wp_loop_rounds 2 ?_
              rw [rounds_succ]
              go_wp2_with (go_at_call 113; first | ((with_reducible refine (within_yes _ _ _ _ (by omega)).mono ?_); rintro e w' ⟨rfl, rfl⟩) | ((with_reducible refine (within_no _ _ _ _ (by omega)).mono ?_); rintro e w' ⟨rfl, rfl⟩))
              rw [rounds_succ]
              go_wp2_with (go_at_call 113; first | ((with_reducible refine (within_yes _ _ _ _ (by omega)).mono ?_); rintro e w' ⟨rfl, rfl⟩) | ((with_reducible refine (within_no _ _ _ _ (by omega)).mono ?_); rintro e w' ⟨rfl, rfl⟩))
              go_ret
              exact ⟨ret_int (HBD.out (by omega)).symm, rfl⟩
            · skip
              by_cases q6 : 191 < z3
              · skip
                go_enter Tryd.func95, Tryd.ntmps95
                go_wp2_with (go_at_call 113; first | ((with_reducible refine (within_yes _ _ _ _ (by omega)).mono ?_); rintro e w' ⟨rfl, rfl⟩) | ((with_reducible refine (within_no _ _ _ _ (by omega)).mono ?_); rintro e w' ⟨rfl, rfl⟩))
                refine wp_loop_rounds 2 ?_
                rw [rounds_succ]
                go_wp2_with (go_at_call 113; first | ((with_reducible refine (within_yes _ _ _ _ (by omega)).mono ?_); rintro e w' ⟨rfl, rfl⟩) | ((with_reducible refine (within_no _ _ _ _ (by omega)).mono ?_); rintro e w' ⟨rfl, rfl⟩))
                rw [rounds_succ]
                go_wp2_with (go_at_call 113; first | ((with_reducible refine (within_yes _ _ _ _ (by omega)).mono ?_); rintro e w' ⟨rfl, rfl⟩) | ((with_reducible refine (within_no _ _ _ _ (by omega)).mono ?_); rintro e w' ⟨rfl, rfl⟩))
                go_ret
                exact ⟨ret_int (HBD.out (by omega)).symm, rfl⟩
              · skip
                go_enter Tryd.func95, Tryd.ntmps95
                go_wp2_with (go_at_call 113; first | ((with_reducible refine (within_yes _ _ _ _ (by omega)).mono ?_); rintro e w' ⟨rfl, rfl⟩) | ((with_reducible refine (within_no _ _ _ _ (by omega)).mono ?_); rintro e w' ⟨rfl, rfl⟩))
                refine wp_loop_rounds 3 ?_
                rw [rounds_succ]
                go_wp2_with (go_at_call 113; first | ((with_reducible refine (within_yes _ _ _ _ (by omega)).mono ?_); rintro e w' ⟨rfl, rfl⟩) | ((with_reducible refine (within_no _ _ _ _ (by omega)).mono ?_); rintro e w' ⟨rfl, rfl⟩))
                rw [rounds_succ]
                go_wp2_with (go_at_call 113; first | ((with_reducible refine (within_yes _ _ _ _ (by omega)).mono ?_); rintro e w' ⟨rfl, rfl⟩) | ((with_reducible refine (within_no _ _ _ _ (by omega)).mono ?_); rintro e w' ⟨rfl, rfl⟩))
                rw [rounds_succ]
                go_wp2_with (go_at_call 113; first | ((with_reducible refine (within_yes _ _ _ _ (by omega)).mono ?_); rintro e w' ⟨rfl, rfl⟩) | ((with_reducible refine (within_no _ _ _ _ (by omega)).mono ?_); rintro e w' ⟨rfl, rfl⟩))
                go_ret
                exact ⟨ret_int (HGD.out (by omega)).symm, rfl⟩
theorem point_low (b o c : Nat) (l : List Int) (w : World) (x0 : Int) (hx : l.getD 0 0 = x0) (hl : 0 < l.length) (hm : l.length ≤ 9223372036854775807) (hc : ∀ j, j < l.length → w.cell? ⟨b, o + j, none⟩ = some (.int .u8 (l.getD j 0))) (hr : x0 < 128) :
    Calls Tryd.prog 95 #[.slice (some ⟨b, o, none⟩) l.length c] w fun e w' => e = .returned (.int .i64 (U8.pt l)) ∧ w = w' := by
  have hp : ((U8.pt l : Nat) : Int) = 1 := by unfold U8.pt; rw [if_pos (by omega)]; rfl
  have e0 : w.cell? ⟨b, o, none⟩ = some (.int .u8 x0) := by rw [← hx]; simpa using hc 0 hl
  have hl0 : (0 : Int) < (l.length : Int) := by omega
  have HP := Lib.hid hp
  clear hp hc hx
  go_enter Tryd.func95, Tryd.ntmps95
  go_wp2_with fail
  go_ret
  exact ⟨ret_int HP.out.symm, rfl⟩
theorem point_any (A : Option Addr) (B c : Nat) (l : List Int) (w : World) (hs : Lst w B A (u8s l)) (hl : 0 < l.length) (hm : l.length ≤ 9223372036854775807) (hb : St.bts l) :
    Calls Tryd.prog 95 #[.slice A l.length c] w fun e w' => e = .returned (.int .i64 (U8.pt l)) ∧ w = w' := by
  obtain ⟨b, o, rfl, _, hc⟩ := hs.bytes (k := 0) hl
  have hx0 : 0 ≤ l.getD 0 0 ∧ l.getD 0 0 ≤ 255 := hb _ (by simp [List.getD, List.getElem?_eq_getElem hl])
  by_cases h0 : l.getD 0 0 < 128
  · exact point_low b o c l w _ rfl hl hm hc h0
  by_cases h1 : l.getD 0 0 ≤ 193
  · exact point_0 b o c l w _ rfl hl hm hb hc (by omega) hx0.2
  by_cases h2 : 245 ≤ l.getD 0 0
  · exact point_1 b o c l w _ rfl hl hm hb hc h2 hx0.2
  by_cases h3 : l.getD 0 0 ≤ 223
  · exact point_2 b o c l w _ rfl hl hm hb hc (by omega) hx0.2
  by_cases h4 : l.getD 0 0 = 224
  · exact point_3 b o c l w _ rfl hl hm hb hc h4 hx0.2
  by_cases h5 : l.getD 0 0 = 237
  · exact point_4 b o c l w _ rfl hl hm hb hc h5 hx0.2
  by_cases h6 : l.getD 0 0 ≤ 239
  · exact point_5 b o c l w _ rfl hl hm hb hc (by omega) hx0.2
  by_cases h7 : l.getD 0 0 = 240
  · exact point_6 b o c l w _ rfl hl hm hb hc h7 hx0.2
  by_cases h8 : l.getD 0 0 = 244
  · exact point_7 b o c l w _ rfl hl hm hb hc h8 hx0.2
  · exact point_8 b o c l w _ rfl hl hm hb hc (by omega) hx0.2
end Go.Proofs.YtoieadbifhealaaDoor.RefU8
