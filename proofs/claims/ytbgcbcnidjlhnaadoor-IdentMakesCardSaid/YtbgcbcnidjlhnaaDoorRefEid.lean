/- The contracts of law04's As and the reference's Plain, Kind, Class, num. -/
import Derived.Test.YtbgcbcnidjlhnaaDoorZm2
import Derived.Test.YtbgcbcnidjlhnaaDoorEidW
import Derived.BigRegion
import Derived.Deep.RegionHeld3
namespace Go.Proofs.YtbgcbcnidjlhnaaDoor.Eid
open Go.RowKit Wd Cb

set_option maxHeartbeats 1000000 in
theorem as04_any (x : Nm) (w : World) : Calls Tryd.prog 33 #[x.val] w fun e w' => e = .returned x.val ∧ Below w.heap.size w w' := by
  obtain ⟨i, n, s, h, d⟩ := x
  have HB := Lib.hid (((Below.refl w.heap.size w).alloc (Nat.le_refl _) (.cells #[.bool i, .int .u64 n, .int .u64 s, .string h, .string d] 24)).alloc (by simp) (.cells #[.bool i, .int .u64 n, .int .u64 s, .string h, .string d] 34))
  go_enter Tryd.func33, Tryd.ntmps33
  go_wp2_with fail
  refine bodyPost_ret (v := Nm.val ⟨i, n, s, h, d⟩) (by simp [results, Tryd.results33, go_sem, *]) rfl ⟨rfl, HB.out⟩

set_option maxHeartbeats 1000000 in
theorem num04_any (n : Int) (w : World) : Calls Tryd.prog 88 #[.int .u64 n] w fun e w' => e = .returned (.agg #[.int .i64 0, .int .u64 n, .slice none 0 0, .slice none 0 0]) ∧ w' = w.alloc (.cells #[.int .i64 0, .int .u64 n, .slice none 0 0, .slice none 0 0] 49) := by
  go_enter Tryd.func88, Tryd.ntmps88
  go_wp2_with fail
  refine bodyPost_ret (v := .agg #[.int .i64 0, .int .u64 n, .slice none 0 0, .slice none 0 0]) (by simp [results, Tryd.results88, go_sem, *]) rfl ⟨rfl, rfl⟩

set_option maxHeartbeats 1000000 in
theorem class_any (x : Nm) (w : World) : Calls Tryd.prog 87 #[x.val] w fun e w' => e = .returned (.int .i64 (kd x)) ∧ Below w.heap.size w w' := by
  obtain ⟨i, n, s, h, d⟩ := x
  have HB := Lib.hid ((Below.refl w.heap.size w).alloc (Nat.le_refl _) (.cells #[.bool i, .int .u64 n, .int .u64 s, .string h, .string d] 34))
  have HD : Hid (∀ (b : Bool), kd ⟨b, n, s, h, d⟩ = if b then 1 else if n = 0 ∧ s = 0 ∧ h.toList = [] ∧ d.toList = [] then 0 else 2) := Lib.hid (fun _ => rfl)
  go_enter Tryd.func87, Tryd.ntmps87
  cases i
  · by_cases e1 : n = 0
    · have t1 : (n == 0) = true := by simpa using e1
      by_cases e2 : s = 0
      · have t2 : (s == 0) = true := by simpa using e2
        cases e3 : h.toList.isEmpty
        · have e3' : h.toList ≠ [] := by simpa using e3
          have HV := Lib.hid (show kd ⟨false, n, s, h, d⟩ = 2 by rw [HD.out, if_neg (by decide), if_neg (fun q => e3' q.2.2.1)])
          clear e1 e2 e3' HD
          go_wp2_with fail
          go_ret
          exact ⟨by rw [HV.out]; rfl, HB.out⟩
        · have e3' : h.toList = [] := by simpa using e3
          cases e4 : d.toList.isEmpty
          · have e4' : d.toList ≠ [] := by simpa using e4
            have HV := Lib.hid (show kd ⟨false, n, s, h, d⟩ = 2 by rw [HD.out, if_neg (by decide), if_neg (fun q => e4' q.2.2.2)])
            clear e1 e2 e3' e4' HD
            go_wp2_with fail
            go_ret
            exact ⟨by rw [HV.out]; rfl, HB.out⟩
          · have e4' : d.toList = [] := by simpa using e4
            have HV := Lib.hid (show kd ⟨false, n, s, h, d⟩ = 0 by rw [HD.out, if_neg (by decide), if_pos ⟨e1, e2, e3', e4'⟩])
            clear e1 e2 e3' e4' HD
            go_wp2_with fail
            go_ret
            exact ⟨by rw [HV.out]; rfl, HB.out⟩
      · have t2 : (s == 0) = false := by simpa using e2
        have HV := Lib.hid (show kd ⟨false, n, s, h, d⟩ = 2 by rw [HD.out, if_neg (by decide), if_neg (fun q => e2 q.2.1)])
        clear e1 e2 HD
        go_wp2_with fail
        go_ret
        exact ⟨by rw [HV.out]; rfl, HB.out⟩
    · have t1 : (n == 0) = false := by simpa using e1
      have HV := Lib.hid (show kd ⟨false, n, s, h, d⟩ = 2 by rw [HD.out, if_neg (by decide), if_neg (fun q => e1 q.1)])
      clear e1 HD
      go_wp2_with fail
      go_ret
      exact ⟨by rw [HV.out]; rfl, HB.out⟩
  · have HV := Lib.hid (show kd ⟨true, n, s, h, d⟩ = 1 from rfl)
    clear HD
    go_wp2_with fail
    go_ret
    exact ⟨by rw [HV.out]; rfl, HB.out⟩

/-- The characters of a name, as the reference asks. -/
def okr (slash : Bool) (c : Int) : Bool := (decide (97 ≤ c) && decide (c ≤ 122)) || (decide (48 ≤ c) && decide (c ≤ 57)) || c == 45 || (slash && c == 47)
theorem okr_okc (slash : Bool) (c : UInt8) : okr slash c.toNat = okc (if slash then ⟨#[45, 47]⟩ else ⟨#[45]⟩) c.toNat := by
  have key : ∀ (b : Bool) (k : Fin 256), okr b (k.val : Int) = okc (if b then ⟨#[45, 47]⟩ else ⟨#[45]⟩) (k.val : Int) := by decide +kernel
  exact key slash ⟨c.toNat, c.toNat_lt⟩
def plain (s : ByteArray) (slash : Bool) : Bool := s.data.toList.all fun b => okr slash b.toNat
theorem plain_okc (s : ByteArray) (slash : Bool) : plain s slash = s.data.toList.all fun b => okc (if slash then ⟨#[45, 47]⟩ else ⟨#[45]⟩) b.toNat := by
  unfold plain
  congr 1
  funext b
  exact okr_okc slash b
set_option maxRecDepth 100000 in
set_option maxHeartbeats 2000000 in
theorem plain_any (s : ByteArray) (hs : s.size ≤ 100) (slash : Bool) (w : World) : Calls Tryd.prog 62 #[.string s, .bool slash] w fun e w' => e = .returned (.bool (plain s slash)) ∧ w' = w := by
  have HP := Lib.hid (show plain s slash = s.data.toList.all fun b => okr slash b.toNat from rfl)
  have HN := Lib.hid (fun (pos : Nat) (h : pos < s.size) => all_no s pos h (fun b => okr slash b.toNat))
  have HS := Lib.hid (fun (pos : Nat) (h : pos < s.size) => all_snoc s pos h (fun b => okr slash b.toNat))
  have HO := Lib.hid (fun (c : Int) => show okr slash c = ((decide (97 ≤ c) && decide (c ≤ 122)) || (decide (48 ≤ c) && decide (c ≤ 57)) || c == 45 || (slash && c == 47)) from rfl)
  go_enter Tryd.func62, Tryd.ntmps62
  go_wp2_with fail
  go_loopw [5] (fun i wr => ∃ k : Nat, k ≤ s.size ∧ i = .int .i64 k ∧ Hid ((s.data.toList.take k).all (fun b => okr slash b.toNat) = true) ∧ Hid (wr = w)) (fun i _ => s.size - (intOf i).toNat)
  case atStart => exact ⟨0, by omega, rfl, Lib.hid (by simp), Lib.hid rfl⟩
  case round =>
    obtain ⟨k, hk, rfl, HA, HW⟩ := hrel
    by_cases hlt : k < s.size
    · have j0 : (0 : Int) ≤ (k : Int) := by omega
      have j1 : (k : Int) < (s.size : Int) := by omega
      have c0 : decide ((k : Int) < (s.size : Int)) = true := decide_eq_true j1
      have HY := Lib.hid (fun h => HS.out k hlt HA.out h)
      have HZ := Lib.hid (HN.out k hlt)
      have HOk := Lib.hid (HO.out (s[k].toNat : Int))
      have D : (decide (97 ≤ (s[k].toNat : Int)) = true ∧ decide ((s[k].toNat : Int) ≤ 122) = true) ∨ (decide (97 ≤ (s[k].toNat : Int)) = false ∧ decide (48 ≤ (s[k].toNat : Int)) = true ∧ decide ((s[k].toNat : Int) ≤ 57) = true) ∨
          (decide (97 ≤ (s[k].toNat : Int)) = false ∧ decide (48 ≤ (s[k].toNat : Int)) = true ∧ decide ((s[k].toNat : Int) ≤ 57) = false ∧ ((s[k].toNat : Int) == 45) = false ∧ ((s[k].toNat : Int) == 47) = false) ∨
          (decide (97 ≤ (s[k].toNat : Int)) = true ∧ decide ((s[k].toNat : Int) ≤ 122) = false ∧ decide (48 ≤ (s[k].toNat : Int)) = true ∧ decide ((s[k].toNat : Int) ≤ 57) = false ∧ ((s[k].toNat : Int) == 45) = false ∧ ((s[k].toNat : Int) == 47) = false) ∨
          (decide (97 ≤ (s[k].toNat : Int)) = false ∧ decide (48 ≤ (s[k].toNat : Int)) = false ∧ ((s[k].toNat : Int) == 45) = true ∧ ((s[k].toNat : Int) == 47) = false) ∨
          (decide (97 ≤ (s[k].toNat : Int)) = false ∧ decide (48 ≤ (s[k].toNat : Int)) = false ∧ ((s[k].toNat : Int) == 45) = false ∧ ((s[k].toNat : Int) == 47) = true) ∨
          (decide (97 ≤ (s[k].toNat : Int)) = false ∧ decide (48 ≤ (s[k].toNat : Int)) = false ∧ ((s[k].toNat : Int) == 45) = false ∧ ((s[k].toNat : Int) == 47) = false) := by
        simp only [decide_eq_false_iff_not, decide_eq_true_eq, beq_iff_eq, beq_eq_false_iff_ne, ne_eq]
        omega
      clear HS HN HO
      rcases D with ⟨d1, d2⟩ | ⟨d1, d2, d3⟩ | ⟨d1, d2, d3, d4, d5⟩ | ⟨d1, d2, d3, d4, d5, d6⟩ | ⟨d1, d2, d3, d4⟩ | ⟨d1, d2, d3, d4⟩ | ⟨d1, d2, d3, d4⟩
      all_goals
        cases slash
        all_goals
          first
          | (have HR := Lib.hid (HY.out (by rw [HOk.out]; simp [*])); clear HY HZ HOk; go_wp2_with fail; go_roundw; (case rel => exact ⟨k + 1, by omega, by go_num, HR, HW⟩); (case measure => simp [intOf]; omega))
          | (have HR := Lib.hid (HZ.out (by rw [HOk.out]; simp [*])); clear HY HZ HOk; go_wp2_with fail; go_ret; exact ⟨ret_bool (by rw [HP.out, HR.out]), HW.out⟩)
          | fail
    · obtain rfl : k = s.size := by omega
      have c0 : decide ((s.size : Int) < (s.size : Int)) = false := decide_eq_false (by omega)
      have HR : Hid (plain s slash = true) := Lib.hid (by rw [HP.out, ← HA.out, List.take_of_length_le (by simp)])
      go_wp2_with fail
      go_ret
      exact ⟨ret_bool (by rw [HR.out]), HW.out⟩
end Go.Proofs.YtbgcbcnidjlhnaaDoor.Eid
