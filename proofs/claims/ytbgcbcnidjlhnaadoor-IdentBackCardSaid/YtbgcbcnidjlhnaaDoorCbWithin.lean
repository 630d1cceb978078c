/- The contract of cbor.within: are items no more than so many, and no deeper than so deep? -/
import Derived.Test.YtbgcbcnidjlhnaaDoorProg
import Derived.Test.YtbgcbcnidjlhnaaDoorItemW
import Derived.WalkKit
import Derived.WalkSpells
import Derived.Lib.Hide
import Derived.Outline
import Derived.Deep.QuietTactic
import Derived.BigQuiet
import Derived.Laws.Pointers
namespace Go.Proofs.YtbgcbcnidjlhnaaDoor.CbWithin
open Go.RowKit Wd Cb

/-- Are items no more than lf, and no deeper than dp? -/
def fits (l : List Itm) (dp lf : Int) : Bool := decide ((sizes l : Int) ≤ lf ∧ (deeps l : Int) ≤ dp)
/-- What is left behind the first k. -/
def rest (l : List Itm) (lf : Int) (k : Nat) : Int := lf - l.length - (sizes (l.take k) - k)
theorem rest_step (l : List Itm) (lf : Int) (k : Nat) (h : k < l.length) : rest l lf (k + 1) = rest l lf k - sizes l[k].sub := by
  have h1 := sizes_snoc l k h
  have h2 := size_sub l[k]
  unfold rest
  omega
theorem rest_all (l : List Itm) (lf : Int) : rest l lf l.length = lf - sizes l := by unfold rest; rw [take_all]; omega
theorem rest_le (l : List Itm) (lf : Int) (k : Nat) (h : k ≤ l.length) : rest l lf k ≥ lf - sizes l := by
  have h1 := sizes_append (l.take k) (l.drop k)
  rw [List.take_append_drop] at h1
  have h2 := length_le_sizes (l.drop k)
  simp only [List.length_drop] at h2
  unfold rest
  omega
theorem rest_up (l : List Itm) (lf : Int) (k : Nat) (h : k ≤ l.length) : rest l lf k ≤ lf - l.length := by
  have h2 := length_le_sizes (l.take k)
  rw [List.length_take, Nat.min_eq_left h] at h2
  unfold rest
  omega
theorem no_size (l : List Itm) (dp lf : Int) (k : Nat) (h : k < l.length) (hs : rest l lf k < sizes l[k].sub) : fits l dp lf = false := by
  have h1 := rest_step l lf k h
  have h2 := rest_le l lf (k + 1) (by omega)
  unfold fits
  simp only [decide_eq_false_iff_not]
  omega
theorem no_deep (l : List Itm) (dp lf : Int) (k : Nat) (h : k < l.length) (hs : dp - 1 < deeps l[k].sub) : fits l dp lf = false := by
  have h1 := deep_at l k h
  have h2 := deep_sub l[k]
  unfold fits
  simp only [decide_eq_false_iff_not]
  omega
theorem no_sub (l : List Itm) (dp lf : Int) (k : Nat) (h : k < l.length) (hs : fits l[k].sub (dp - 1) (rest l lf k) = false) : fits l dp lf = false := by
  unfold fits at hs
  simp only [decide_eq_false_iff_not] at hs
  by_cases h1 : rest l lf k < sizes l[k].sub
  · exact no_size l dp lf k h h1
  · exact no_deep l dp lf k h (by omega)
theorem yes_sub (l : List Itm) (dp lf : Int) (k : Nat) (h : k < l.length) (hs : fits l[k].sub (dp - 1) (rest l lf k) = true) (hd : (deeps (l.take k) : Int) ≤ dp) :
    0 ≤ rest l lf (k + 1) ∧ (deeps (l.take (k + 1)) : Int) ≤ dp := by
  unfold fits at hs
  simp only [decide_eq_true_eq] at hs
  have h1 := rest_step l lf k h
  have h2 := deeps_snoc l k h
  have h3 := deep_sub l[k]
  omega

set_option maxRecDepth 100000 in
set_option maxHeartbeats 1000000 in
theorem within_any (N : Nat) : ∀ (l : List Itm) (A : Option Addr) (c g : Nat) (dp lf : Int) (w : World), deeps l ≤ N → ItemsV w 0 g l A → l.length ≤ c → c ≤ maxLen → Blk w g 3 #[.int .i64 lf] →
    0 ≤ dp → dp ≤ 100000 → 0 ≤ lf → lf ≤ 4294967296 →
    Calls Tryd.prog 77 #[.slice A l.length c, .int .i64 dp, .pointer (some ⟨g, 0, none⟩)] w fun e w' =>
      e = .returned (.bool (fits l dp lf)) ∧ Below g w w' ∧ ∃ r : Int, Hid (Blk w' g 3 #[.int .i64 r]) ∧ Hid (fits l dp lf = true → r = lf - sizes l) := by
  induction N with
  | zero =>
    intro l A c g dp lf w hN hI hc hm hB h0 h1 h2 h3
    obtain rfl : l = [] := by
      cases l with
      | nil => rfl
      | cons x l => have := deep_pos x; simp [deeps] at hN; omega
    have HB := Lib.hid hB
    clear hB
    go_enter Tryd.func77, Tryd.ntmps77
    go_wp2_with fail
    go_ret
    exact ⟨ret_bool (by simp [fits, sizes, deeps, h0, h2]), Below.refl _ _, lf, HB, Lib.hid (fun _ => by simp [sizes])⟩
  | succ N ih =>
    intro l A c g dp lf w hN hI hc hm hB h0 h1 h2 h3
    unfold maxLen at hm
    rcases Nat.eq_zero_or_pos l.length with hz | hz
    · obtain rfl : l = [] := List.eq_nil_of_length_eq_zero hz
      have HB := Lib.hid hB
      clear hB
      go_enter Tryd.func77, Tryd.ntmps77
      go_wp2_with fail
      go_ret
      exact ⟨ret_bool (by simp [fits, sizes, deeps, h0, h2]), Below.refl _ _, lf, HB, Lib.hid (fun _ => by simp [sizes])⟩
    · have HB := Lib.hid hB
      have hcell : w.cell? ⟨g, 0, none⟩ = some (.int .i64 lf) := by simpa using hB.cell 0
      have hfr := hB.frozen 0
      have e0 : ((l.length : Int) == 0) = false := by simp only [beq_eq_false_iff_ne, ne_eq]; omega
      by_cases hd : dp = 0
      · have hf : fits l dp lf = false := by
          have h4 := deep_at l 0 hz
          have h5 := deep_pos l[0]
          simp only [fits, decide_eq_false_iff_not]
          omega
        have HF := Lib.hid hf
        clear hf hB
        subst hd
        go_enter Tryd.func77, Tryd.ntmps77
        go_wp2_with fail
        go_ret
        exact ⟨ret_bool HF.out.symm, Below.refl _ _, lf, HB, Lib.hid (fun h => by rw [HF.out] at h; cases h)⟩
      · have e1 : (dp == 0) = false := by simpa using hd
        by_cases hlt : lf < l.length
        · have hf : fits l dp lf = false := by
            have := length_le_sizes l
            simp [fits]; omega
          have HF := Lib.hid hf
          clear hf hB
          go_enter Tryd.func77, Tryd.ntmps77
          go_wp2_with fail
          go_ret
          exact ⟨ret_bool HF.out.symm, Below.refl _ _, lf, HB, Lib.hid (fun h => by rw [HF.out] at h; cases h)⟩
        · have e2 : decide (lf < (l.length : Int)) = false := by simp; omega
          have HB0 : Hid (Blk (w.setCell ⟨g, 0, none⟩ (.int .i64 (lf - l.length))) g 3 #[.int .i64 (rest l lf 0)]) := Lib.hid (by
            have := hB.set_ 0 (.int .i64 (lf - l.length))
            simpa [rest, sizes] using this)
          have HW0 := Lib.hid ((Below.refl g w).setCell (p := ⟨g, 0, none⟩) (Nat.le_refl _) (.int .i64 (lf - l.length)))
          have HI := Lib.hid hI
          clear hB hI
          go_enter Tryd.func77, Tryd.ntmps77
          go_wp2_with fail
          go_loopw [30] (fun i wr => ∃ k : Nat, k ≤ l.length ∧ i = .int .i64 k ∧ 0 ≤ rest l lf k ∧ Hid ((deeps (l.take k) : Int) ≤ dp) ∧ Hid (Blk wr g 3 #[.int .i64 (rest l lf k)]) ∧ Hid (Below g w wr)) (fun i _ => l.length - (intOf i).toNat)
          case atStart => exact ⟨0, by omega, rfl, by simp [rest, sizes]; omega, Lib.hid (by simp [deeps]; omega), HB0, HW0⟩
          case round =>
            obtain ⟨k, hk, rfl, hr, HD, HBk, HWk⟩ := hrel
            clear HB0 HW0
            by_cases hlt : k < l.length
            · obtain ⟨b, o, A1, cc, A2, cc', rfl, b0, b1, _, _, _, q3, _, _, _, _, _, _, q4, q5, q6⟩ := (HI.out.below HWk.out).at_ hlt
              have hup := rest_up l lf k hk
              have hdl := deep_at l k hlt
              have hds := deep_sub l[k]
              go_wp2_with fail
              refine (ih l[k].sub A2 cc' g (dp - 1) (rest l lf k) _ (by omega) q6 q4 q5 HBk.out (by omega) (by omega) hr (by omega)).mono ?_
              rintro e w2 ⟨rfl, hb2, r, HBr, HFr⟩
              cases hf : fits l[k].sub (dp - 1) (rest l lf k)
              · have HF := Lib.hid (no_sub l dp lf k hlt hf)
                have HW2 := Lib.hid (HWk.out.trans hb2)
                clear hb2 hf HFr
                go_wp2_with fail
                go_ret
                exact ⟨ret_bool HF.out.symm, HW2.out, r, HBr, Lib.hid (fun h => by rw [HF.out] at h; cases h)⟩
              · have hy := yes_sub l dp lf k hlt hf HD.out
                have HY := Lib.hid hy
                have hstep := rest_step l lf k hlt
                have hre := HFr.out hf
                have HE : Hid (r = rest l lf (k + 1)) := Lib.hid (by omega)
                have HW2 := Lib.hid (HWk.out.trans hb2)
                clear hb2 hf HFr hy hre hstep
                go_wp2_with fail
                go_roundw
                case rel => exact ⟨k + 1, by omega, by go_num, HY.out.1, Lib.hid HY.out.2, by rw [← HE.out]; exact HBr, HW2⟩
                case measure => simp [intOf]; omega
            · obtain rfl : k = l.length := by omega
              have HE := Lib.hid (rest_all l lf)
              have HF : Hid (fits l dp lf = true) := Lib.hid (by
                have h5 := HD.out
                have h6 := rest_all l lf
                rw [take_all] at h5
                simp only [fits, decide_eq_true_eq]
                omega)
              go_wp2_with fail
              go_ret
              exact ⟨ret_bool HF.out.symm, HWk.out, _, HBk, Lib.hid (fun _ => HE.out)⟩
end Go.Proofs.YtbgcbcnidjlhnaaDoor.CbWithin
