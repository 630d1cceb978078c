/- The contracts of eid.rightTexts, Right, path. -/
import Derived.Test.YtbgcbcnidjlhnaaDoorMade
import Derived.Test.YtbgcbcnidjlhnaaDoorEidLess
namespace Go.Proofs.YtbgcbcnidjlhnaaDoor.Eid
open Go.RowKit Wd

/-- May the texts of a name be? -/
def rt (h d : ByteArray) : Bool := !h.toList.isEmpty && mk h 16 ⟨#[45]⟩ && mk d 24 ⟨#[45, 47]⟩
set_option maxRecDepth 100000 in
set_option maxHeartbeats 4000000 in
theorem rightTexts_any (x : Nm) (hx : x.ok) (w : World) : Calls Tryd.prog 66 #[x.val] w fun e w' => e = .returned (.bool (rt x.host x.demux)) ∧ Below w.heap.size w w' := by
  obtain ⟨i, n, s, h, d⟩ := x
  have CM1 := Lib.hid (fun w' => made_any h hx.h 16 ⟨#[45]⟩ (.inl rfl) w')
  have CM2 := Lib.hid (fun w' => made_any d hx.d 24 ⟨#[45, 47]⟩ (.inr rfl) w')
  have HR := Lib.hid (show rt h d = (!h.toList.isEmpty && mk h 16 ⟨#[45]⟩ && mk d 24 ⟨#[45, 47]⟩) from rfl)
  have HB := Lib.hid ((Below.refl w.heap.size w).alloc (Nat.le_refl _) (.cells #[.bool i, .int .u64 n, .int .u64 s, .string h, .string d] 24))
  have HK := Lib.hid (Blk.new w 24 #[.bool i, .int .u64 n, .int .u64 s, .string h, .string d])
  clear hx
  show Calls Tryd.prog 66 #[.agg #[.bool i, .int .u64 n, .int .u64 s, .string h, .string d]] w fun e w' => e = .returned (.bool (rt h d)) ∧ Below w.heap.size w w'
  generalize rt h d = R at *
  generalize mk h 16 ⟨#[45]⟩ = m1 at *
  generalize mk d 24 ⟨#[45, 47]⟩ = m2 at *
  go_enter Tryd.func66, Tryd.ntmps66
  cases t0 : h.toList.isEmpty
  rotate_left
  · have HF := Lib.hid (show R = false by rw [HR.out, t0]; rfl)
    go_wp2_with fail
    go_ret
    exact ⟨ret_bool HF.out.symm, HB.out⟩
  · have HF := Lib.hid (show R = (m1 && m2) by rw [HR.out, t0]; rfl)
    clear HR
    go_wp2_with fail
    refine (CM1.out _).mono ?_
    rintro e w1 ⟨rfl, hb1⟩
    have HB1 := Lib.hid (below_next HB.out (by simp) hb1)
    have hd := (cells5 (HK.out.below hb1 HK.out.lt)).2.2.2.2
    clear hb1
    cases m1
    · go_wp2_with fail
      go_ret
      exact ⟨ret_bool HF.out.symm, HB1.out⟩
    · go_wp2_with fail
      refine (CM2.out _).mono ?_
      rintro e w2 ⟨rfl, hb2⟩
      have HB2 := Lib.hid (below_next HB1.out HB1.out.size hb2)
      clear hb2
      go_wp2_with fail
      go_ret
      exact ⟨ret_bool (by rw [HF.out]; rfl), HB2.out⟩

/-- What a name by texts has behind the scheme. -/
def pathOf (h d : ByteArray) : ByteArray := ((⟨#[47, 47]⟩ : ByteArray) ++ h) ++ (⟨#[47]⟩ : ByteArray) ++ d
set_option maxHeartbeats 1000000 in
theorem path_any (x : Nm) (h1 : x.host.size ≤ 1000) (h2 : x.demux.size ≤ 1000) (w : World) : Calls Tryd.prog 80 #[x.val] w fun e w' => e = .returned (.string (pathOf x.host x.demux)) ∧ Below w.heap.size w w' := by
  obtain ⟨i, n, s, h, d⟩ := x
  have HB := Lib.hid ((Below.refl w.heap.size w).alloc (Nat.le_refl _) (.cells #[.bool i, .int .u64 n, .int .u64 s, .string h, .string d] 24))
  replace h1 : h.size ≤ 1000 := h1
  replace h2 : d.size ≤ 1000 := h2
  have c1 : ¬ 9223372036854775807 < 2 + h.size := by omega
  have c2 : ¬ 9223372036854775807 < 2 + h.size + 1 := by omega
  have c3 : ¬ 9223372036854775807 < 2 + h.size + 1 + d.size := by omega
  go_enter Tryd.func80, Tryd.ntmps80
  go_wp2_with fail
  go_ret
  exact ⟨rfl, HB.out⟩

/-- May a name be? -/
def right (x : Nm) : Bool := if x.ipn then x.host.toList.isEmpty && x.demux.toList.isEmpty && rn x else if x.node = 0 ∧ x.service = 0 ∧ x.host.toList = [] ∧ x.demux.toList = [] then true else decide (x.node = 0) && decide (x.service = 0) && rt x.host x.demux

set_option maxRecDepth 100000 in
set_option maxHeartbeats 4000000 in
theorem right_any (x : Nm) (hx : x.ok) (w : World) : Calls Tryd.prog 36 #[x.val] w fun e w' => e = .returned (.bool (right x)) ∧ Below w.heap.size w w' := by
  have CK := Lib.hid (fun w' => kind_any x w')
  have CN := Lib.hid (fun w' => rightNumbers_any x w')
  have CT := Lib.hid (fun w' => rightTexts_any x hx w')
  obtain ⟨i, n, s, h, d⟩ := x
  have HB := Lib.hid ((Below.refl w.heap.size w).alloc (Nat.le_refl _) (.cells #[.bool i, .int .u64 n, .int .u64 s, .string h, .string d] 24))
  have HK := Lib.hid (Blk.new w 24 #[.bool i, .int .u64 n, .int .u64 s, .string h, .string d])
  clear hx
  go_enter Tryd.func36, Tryd.ntmps36
  go_wp2_with fail
  refine (CK.out _).mono ?_
  rintro e w1 ⟨rfl, hb1⟩
  have HB1 := Lib.hid (below_next HB.out (by simp) hb1)
  obtain ⟨c0, c1, c2, c3, c4⟩ := cells5 (HK.out.below hb1 HK.out.lt)
  clear hb1
  cases i
  · by_cases hz : n = 0 ∧ s = 0 ∧ h.toList = [] ∧ d.toList = []
    · have hk : kd ⟨false, n, s, h, d⟩ = 0 := by unfold kd; simp only [Bool.false_eq_true, if_false]; rw [if_pos hz]
      rw [hk]
      have hr : Hid (right ⟨false, n, s, h, d⟩ = true) := Lib.hid (by unfold right; simp only [Bool.false_eq_true, if_false]; rw [if_pos hz])
      clear hz hk
      go_wp2_with fail
      go_ret
      exact ⟨ret_bool hr.out.symm, HB1.out⟩
    · have hk : kd ⟨false, n, s, h, d⟩ = 2 := by unfold kd; simp only [Bool.false_eq_true, if_false]; rw [if_neg hz]
      rw [hk]
      have hr : Hid (right ⟨false, n, s, h, d⟩ = (decide (n = 0) && decide (s = 0) && rt h d)) := Lib.hid (by unfold right; simp only [Bool.false_eq_true, if_false]; rw [if_neg hz])
      clear hz hk HK
      by_cases e1 : n = 0
      · subst e1
        by_cases e2 : s = 0
        · subst e2
          have hr2 := Lib.hid (show right ⟨false, 0, 0, h, d⟩ = rt h d by rw [hr.out]; rfl)
          clear hr
          go_wp2_with fail
          refine (CT.out _).mono ?_
          rintro e w2 ⟨rfl, hb2⟩
          have HB2 := Lib.hid (below_next HB1.out HB1.out.size hb2)
          clear hb2
          go_wp2_with fail
          go_ret
          exact ⟨ret_bool hr2.out.symm, HB2.out⟩
        · have hr2 := Lib.hid (show right ⟨false, 0, s, h, d⟩ = false by rw [hr.out, decide_eq_false e2]; simp)
          clear hr
          go_wp2_with fail
          go_ret
          exact ⟨ret_bool hr2.out.symm, HB1.out⟩
      · have hr2 := Lib.hid (show right ⟨false, n, s, h, d⟩ = false by rw [hr.out, decide_eq_false e1]; simp)
        clear hr
        go_wp2_with fail
        go_ret
        exact ⟨ret_bool hr2.out.symm, HB1.out⟩
  · have hk : kd ⟨true, n, s, h, d⟩ = 1 := rfl
    rw [hk]
    have hr : Hid (right ⟨true, n, s, h, d⟩ = (h.toList.isEmpty && d.toList.isEmpty && rn ⟨true, n, s, h, d⟩)) := Lib.hid rfl
    clear hk HK
    by_cases e1 : h.toList = []
    · by_cases e2 : d.toList = []
      · have hr2 := Lib.hid (show right ⟨true, n, s, h, d⟩ = rn ⟨true, n, s, h, d⟩ by rw [hr.out, e1, e2]; rfl)
        clear hr
        go_wp2_with fail
        refine (CN.out _).mono ?_
        rintro e w2 ⟨rfl, hb2⟩
        have HB2 := Lib.hid (below_next HB1.out HB1.out.size hb2)
        clear hb2
        go_wp2_with fail
        go_ret
        exact ⟨ret_bool hr2.out.symm, HB2.out⟩
      · have hr2 := Lib.hid (show right ⟨true, n, s, h, d⟩ = false by rw [hr.out, e1]; simp [e2])
        clear hr
        go_wp2_with fail
        go_ret
        exact ⟨ret_bool hr2.out.symm, HB1.out⟩
    · have hr2 := Lib.hid (show right ⟨true, n, s, h, d⟩ = false by rw [hr.out]; simp [e1])
      clear hr
      go_wp2_with fail
      go_ret
      exact ⟨ret_bool hr2.out.symm, HB1.out⟩
end Go.Proofs.YtbgcbcnidjlhnaaDoor.Eid
