/- The contracts of the reference's Kind and Less. -/
import Derived.Test.YtbgcbcnidjlhnaaDoorRefEid
import Derived.Test.YtbgcbcnidjlhnaaDoorEidOrd
import Derived.Deep.CutBlock
namespace Go.Proofs.YtbgcbcnidjlhnaaDoor.Eid
open Go.RowKit Wd Cb

/-- The kind of a name that may be; -1 of one that may not. -/
def rk (x : Nm) : Int := if right x then kd x else -1
theorem rk_false {x : Nm} (h : right x = false) : rk x = -1 := by unfold rk; rw [h]; rfl
theorem rk_true {x : Nm} (h : right x = true) : rk x = kd x := by unfold rk; rw [h]; rfl
theorem right_ipn (n s : Int) (h d : ByteArray) : right ⟨true, n, s, h, d⟩ = (h.toList.isEmpty && d.toList.isEmpty && (decide (1 ≤ n) && decide (n ≤ 4294967295) && decide (s ≤ 4294967295))) := rfl
theorem right_dtn (n s : Int) (h d : ByteArray) : right ⟨false, n, s, h, d⟩ = if n = 0 ∧ s = 0 ∧ h.toList = [] ∧ d.toList = [] then true else decide (n = 0) && decide (s = 0) && rt h d := rfl
theorem kd_dtn (n s : Int) (h d : ByteArray) : kd ⟨false, n, s, h, d⟩ = if n = 0 ∧ s = 0 ∧ h.toList = [] ∧ d.toList = [] then 0 else 2 := rfl
theorem empty_size (h : ByteArray) : h.toList = [] ↔ h.size = 0 := by
  rw [Lib.toList_data, Lib.size_eq]
  exact List.length_eq_zero_iff.symm
theorem rt_plain (h d : ByteArray) : rt h d = (!h.toList.isEmpty && (decide ((h.size : Int) ≤ 16) && plain h false) && (decide ((d.size : Int) ≤ 24) && plain d true)) := by
  unfold rt mk
  rw [plain_okc, plain_okc]
  rfl

set_option maxRecDepth 100000 in
set_option maxHeartbeats 4000000 in
theorem kind04_any (x : Nm) (hx : x.ok) (w : World) : Calls Tryd.prog 32 #[x.val] w fun e w' => e = .returned (.int .i64 (rk x)) ∧ Below w.heap.size w w' := by
  obtain ⟨i, n, s, h, d⟩ := x
  have hn0 := hx.n0
  have hs0 := hx.s0
  have hh := hx.h
  have hd := hx.d
  replace hn0 : 0 ≤ n := hn0
  replace hs0 : 0 ≤ s := hs0
  have HB := Lib.hid ((Below.refl w.heap.size w).alloc (Nat.le_refl _) (.cells #[.bool i, .int .u64 n, .int .u64 s, .string h, .string d] 34))
  have CP1 := Lib.hid (fun (hl : h.size ≤ 100) w' => plain_any h hl false w')
  have CP2 := Lib.hid (fun (hl : d.size ≤ 100) w' => plain_any d hl true w')
  have HK := Lib.hid (Blk.new w 34 #[.bool i, .int .u64 n, .int .u64 s, .string h, .string d])
  have HES := Lib.hid (empty_size h)
  clear hx hh hd
  cases i
  · by_cases e1 : n = 0
    · subst e1
      by_cases e2 : s = 0
      · subst e2
        cases e3 : h.toList.isEmpty
        · have e3' : h.toList ≠ [] := by simpa using e3
          have hne : ¬ (0 = 0 ∧ 0 = 0 ∧ h.toList = [] ∧ d.toList = []) := fun q => e3' q.2.2.1
          have HR : Hid (right ⟨false, 0, 0, h, d⟩ = ((decide ((h.size : Int) ≤ 16) && plain h false) && (decide ((d.size : Int) ≤ 24) && plain d true))) := Lib.hid (by
            rw [right_dtn, if_neg (by simpa using hne), rt_plain, e3]
            rfl)
          have HV : Hid (kd ⟨false, 0, 0, h, d⟩ = 2) := Lib.hid (by rw [kd_dtn, if_neg (by simpa using hne)])
          have t0 : decide ((h.size : Int) < 1) = false := decide_eq_false (by
            intro q
            exact e3' (HES.out.2 (by omega)))
          clear hne e3' HES
          by_cases e4 : (h.size : Int) ≤ 16
          · have t1 : decide (16 < (h.size : Int)) = false := decide_eq_false (by omega)
            by_cases e5 : (d.size : Int) ≤ 24
            · have t2 : decide (24 < (d.size : Int)) = false := decide_eq_false (by omega)
              have C1 := Lib.hid (CP1.out (by omega))
              have C2 := Lib.hid (CP2.out (by omega))
              have HR2 : Hid (right ⟨false, 0, 0, h, d⟩ = (plain h false && plain d true)) := Lib.hid (by
                rw [HR.out, decide_eq_true e4, decide_eq_true e5]
                simp)
              clear CP1 CP2 HR e4 e5
              generalize plain h false = p1 at *
              generalize plain d true = p2 at *
              go_enter Tryd.func32, Tryd.ntmps32
              go_wp2_with fail
              refine (C1.out _).mono ?_
              rintro e w1 ⟨rfl, rfl⟩
              cases p1
              · have HV2 := Lib.hid (rk_false HR2.out)
                go_wp2_with fail
                go_ret
                exact ⟨by rw [HV2.out]; rfl, HB.out⟩
              · go_wp2_with fail
                refine (C2.out _).mono ?_
                rintro e w1 ⟨rfl, rfl⟩
                cases p2
                · have HV2 := Lib.hid (rk_false HR2.out)
                  go_wp2_with fail
                  go_ret
                  exact ⟨by rw [HV2.out]; rfl, HB.out⟩
                · have HV2 := Lib.hid ((rk_true HR2.out).trans HV.out)
                  go_wp2_with fail
                  go_ret
                  exact ⟨by rw [HV2.out]; rfl, HB.out⟩
            · have t2 : decide (24 < (d.size : Int)) = true := decide_eq_true (by omega)
              have HV2 := Lib.hid (rk_false (x := ⟨false, 0, 0, h, d⟩) (by rw [HR.out, decide_eq_false e5]; simp))
              clear CP1 CP2 HR HV
              go_enter Tryd.func32, Tryd.ntmps32
              go_wp2_with fail
              go_ret
              exact ⟨by rw [HV2.out]; rfl, HB.out⟩
          · have t1 : decide (16 < (h.size : Int)) = true := decide_eq_true (by omega)
            have HV2 := Lib.hid (rk_false (x := ⟨false, 0, 0, h, d⟩) (by rw [HR.out, decide_eq_false e4]; simp))
            clear CP1 CP2 HR HV
            go_enter Tryd.func32, Tryd.ntmps32
            go_wp2_with fail
            go_ret
            exact ⟨by rw [HV2.out]; rfl, HB.out⟩
        · have e3' : h.toList = [] := by simpa using e3
          cases e4 : d.toList.isEmpty
          · have e4' : d.toList ≠ [] := by simpa using e4
            have hne : ¬ (0 = 0 ∧ 0 = 0 ∧ h.toList = [] ∧ d.toList = []) := fun q => e4' q.2.2.2
            have HV2 := Lib.hid (rk_false (x := ⟨false, 0, 0, h, d⟩) (by rw [right_dtn, if_neg (by simpa using hne), rt_plain, e3]; simp))
            have t0 : decide ((h.size : Int) < 1) = true := decide_eq_true (by have := HES.out.1 e3'; omega)
            clear CP1 CP2 HES hne e3' e4'
            go_enter Tryd.func32, Tryd.ntmps32
            go_wp2_with fail
            go_ret
            exact ⟨by rw [HV2.out]; rfl, HB.out⟩
          · have e4' : d.toList = [] := by simpa using e4
            have HV2 : Hid (rk ⟨false, 0, 0, h, d⟩ = 0) := Lib.hid (by
              rw [rk_true (by rw [right_dtn, if_pos ⟨rfl, rfl, e3', e4'⟩]), kd_dtn, if_pos ⟨rfl, rfl, e3', e4'⟩])
            clear CP1 CP2 HES e3' e4'
            go_enter Tryd.func32, Tryd.ntmps32
            go_wp2_with fail
            go_ret
            exact ⟨by rw [HV2.out]; rfl, HB.out⟩
      · have t2 : (s != 0) = true := by simpa using e2
        have HV2 := Lib.hid (rk_false (x := ⟨false, 0, s, h, d⟩) (by rw [right_dtn, if_neg (fun q => e2 q.2.1), decide_eq_false e2]; simp))
        clear CP1 CP2 HES e2
        go_enter Tryd.func32, Tryd.ntmps32
        go_wp2_with fail
        go_ret
        exact ⟨by rw [HV2.out]; rfl, HB.out⟩
    · have t1 : (n != 0) = true := by simpa using e1
      have HV2 := Lib.hid (rk_false (x := ⟨false, n, s, h, d⟩) (by rw [right_dtn, if_neg (fun q => e1 q.1), decide_eq_false e1]; simp))
      clear CP1 CP2 HES e1
      go_enter Tryd.func32, Tryd.ntmps32
      go_wp2_with fail
      go_ret
      exact ⟨by rw [HV2.out]; rfl, HB.out⟩
  · clear CP1 CP2 HES
    have HR := Lib.hid (right_ipn n s h d)
    cases e3 : h.toList.isEmpty
    · have HV2 := Lib.hid (rk_false (x := ⟨true, n, s, h, d⟩) (by rw [HR.out, e3]; rfl))
      clear HR
      go_enter Tryd.func32, Tryd.ntmps32
      go_wp2_with fail
      go_ret
      exact ⟨by rw [HV2.out]; rfl, HB.out⟩
    · cases e4 : d.toList.isEmpty
      · have HV2 := Lib.hid (rk_false (x := ⟨true, n, s, h, d⟩) (by rw [HR.out, e3, e4]; rfl))
        clear HR
        go_enter Tryd.func32, Tryd.ntmps32
        go_wp2_with fail
        go_ret
        exact ⟨by rw [HV2.out]; rfl, HB.out⟩
      · have HR2 : Hid (right ⟨true, n, s, h, d⟩ = (decide (1 ≤ n) && decide (n ≤ 4294967295) && decide (s ≤ 4294967295))) := Lib.hid (by rw [HR.out, e3, e4]; rfl)
        clear HR
        by_cases a1 : 1 ≤ n
        · have t1 : decide (n < 1) = false := decide_eq_false (by omega)
          by_cases a2 : n ≤ 4294967295
          · have t2 : decide (4294967295 < n) = false := decide_eq_false (by omega)
            by_cases a3 : s ≤ 4294967295
            · have t3 : decide (4294967295 < s) = false := decide_eq_false (by omega)
              have HV2 : Hid (rk ⟨true, n, s, h, d⟩ = 1) := Lib.hid (rk_true (x := ⟨true, n, s, h, d⟩) (by rw [HR2.out, decide_eq_true a1, decide_eq_true a2, decide_eq_true a3]; rfl))
              clear HR2
              go_enter Tryd.func32, Tryd.ntmps32
              go_wp2_with fail
              go_ret
              exact ⟨by rw [HV2.out]; rfl, HB.out⟩
            · have t3 : decide (4294967295 < s) = true := decide_eq_true (by omega)
              have HV2 := Lib.hid (rk_false (x := ⟨true, n, s, h, d⟩) (by rw [HR2.out, decide_eq_false a3]; simp))
              clear HR2
              go_enter Tryd.func32, Tryd.ntmps32
              go_wp2_with fail
              go_ret
              exact ⟨by rw [HV2.out]; rfl, HB.out⟩
          · have t2 : decide (4294967295 < n) = true := decide_eq_true (by omega)
            have HV2 := Lib.hid (rk_false (x := ⟨true, n, s, h, d⟩) (by rw [HR2.out, decide_eq_false a2]; simp))
            clear HR2
            go_enter Tryd.func32, Tryd.ntmps32
            go_wp2_with fail
            go_ret
            exact ⟨by rw [HV2.out]; rfl, HB.out⟩
        · have t1 : decide (n < 1) = true := decide_eq_true (by omega)
          have HV2 := Lib.hid (rk_false (x := ⟨true, n, s, h, d⟩) (by rw [HR2.out, decide_eq_false a1]; simp))
          clear HR2
          go_enter Tryd.func32, Tryd.ntmps32
          go_wp2_with fail
          go_ret
          exact ⟨by rw [HV2.out]; rfl, HB.out⟩
end Go.Proofs.YtbgcbcnidjlhnaaDoor.Eid
