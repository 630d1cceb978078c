/- What is read of an item that is not too much, plain; equality of the reference's names. -/
import Derived.Test.YtbgcbcnidjlhnaaDoorRefRd
import Derived.Test.YtbgcbcnidjlhnaaDoorGreat
import Derived.Test.YtbgcbcnidjlhnaaDoorAs03
namespace Go.Proofs.YtbgcbcnidjlhnaaDoor.Eid
open Go.RowKit Wd Cb Great
set_option maxHeartbeats 1000000 in
theorem run_nm4 (w : World) (d : Nat) (i1 i2 : Bool) (n1 s1 n2 s2 : Int) (h1 d1 h2 d2 : ByteArray) :
    (Op.equalIn (d + 2) 34 (.agg #[.bool i1, .int .u64 n1, .int .u64 s1, .string h1, .string d1]) (.agg #[.bool i2, .int .u64 n2, .int .u64 s2, .string h2, .string d2])).run Tryd.prog w = .ok (nmEq ⟨i1, n1, s1, h1, d1⟩ ⟨i2, n2, s2, h2, d2⟩) w := by
  rw [run_equalIn_struct w (d + 1) 34 _ _ (by kernel_rfl) (by kernel_rfl)]
  simp only [Program.fieldsOf, Tryd.underlying34]
  unfold nmEq
  cases e1 : (i1 == i2) <;> cases e2 : (n1 == n2) <;> cases e3 : (s1 == s2) <;> cases e4 : (h1.toList == h2.toList) <;> cases e5 : (d1.toList == d2.toList) <;> go_simp
theorem grt_bs (x : Itm) (d lf : Int) (h : 0 ≤ grt x d lf) : x.bs.length ≤ 3000 := by
  rw [grt_sub] at h
  split at h
  · omega
  · omega
theorem grts_bs : ∀ (l : List Itm) (d lf : Int), 0 ≤ grts l d lf → ∀ k (h : k < l.length), (l[k]).bs.length ≤ 3000
  | [], _, _, _, k, h => by simp at h
  | x :: l, d, lf, h0, k, h => by
    unfold grts at h0
    split at h0
    · rename_i hc
      have hx : 0 ≤ grt x d lf := by
        have := (grts_le l d (grt x d lf) (by have := grt_le x d lf hc; omega)).2
        omega
      cases k with
      | zero => exact grt_bs x d lf hx
      | succ k => exact grts_bs l d _ h0 k (by simpa using h)
    · omega
theorem grt_subs (x : Itm) (d lf : Int) (h : 0 ≤ grt x d lf) : ∀ k (h : k < x.sub.length), (x.sub[k]).bs.length ≤ 3000 := by
  rw [grt_sub] at h
  split at h
  · omega
  · exact grts_bs _ _ _ h
/-- Numbers in their bounds. -/
def NumsOk (z : Itm) : Prop := (∀ k (h : k < z.sub.length), 0 ≤ (z.sub[k]).num ∧ (z.sub[k]).num ≤ 18446744073709551615) ∧ z.bs.length ≤ 3000
theorem second_ok {w : World} {hi : Nat} {x : Itm} {v : Value} (hv : ItemV w 0 hi x v) (hb : ∀ k (h : k < x.sub.length), (x.sub[k]).bs.length ≤ 3000) : NumsOk (x.sub.getD 1 (iN 0)) := by
  obtain ⟨_, _, _, _, _, _, _, _, _, _, _, _, _, h6⟩ := hv.open_
  by_cases hl : 1 < x.sub.length
  · simp only [List.getD, List.getElem?_eq_getElem hl, Option.getD_some]
    refine ⟨fun k hk => ?_, hb 1 hl⟩
    obtain ⟨_, _, _, _, _, _, _, _, _, _, _, _, _, _, _, _, _, _, _, _, _, p9⟩ := h6.at_ hl
    obtain ⟨_, _, _, _, _, _, _, _, _, _, _, _, _, _, q, _⟩ := p9.at_ hk
    exact q
  · simp only [List.getD, List.getElem?_eq_none (Nat.le_of_not_lt hl), Option.getD_none]
    exact ⟨fun k hk => absurd hk (Nat.not_lt_zero _), Nat.zero_le _⟩
theorem zcand_ok {z : Itm} (h : NumsOk z) {g : Nm} (hg : zcand z = some g) : g.ok := by
  unfold zcand at hg
  split at hg
  · rename_i hc
    injection hg with hg
    rw [← hg]
    have h0 := h.1 0 (by omega)
    have h1 := h.1 1 (by omega)
    simp only [List.getD, List.getElem?_eq_getElem (show 0 < z.sub.length by omega), List.getElem?_eq_getElem (show 1 < z.sub.length by omega), Option.getD_some]
    exact ⟨h0.1, h0.2, h1.1, h1.2, Nat.zero_le _, Nat.zero_le _⟩
  · split at hg
    · split at hg
      · injection hg with hg
        rw [← hg]
        have hs : (dtnStr z.bs).size ≤ 4294967280 := by
          unfold dtnStr
          rw [ByteArray.size_append, Lib.size_eq (strOfNums z.bs), strOfNums_data, List.length_map]
          show 4 + z.bs.length ≤ 4294967280
          have := h.2
          omega
        rw [(rp_is _ hs).1]
        exact parse_ok _ hs
      · cases hg
    · injection hg with hg
      rw [← hg]
      exact zero_ok
theorem r4_same {w : World} {hi : Nat} {x : Itm} {v : Value} (hv : ItemV w 0 hi x v) (hb : ∀ k (h : k < x.sub.length), (x.sub[k]).bs.length ≤ 3000) : r4Val x = rdI x ∧ r4Ok x = rdOk x := by
  have hz := second_ok hv hb
  refine r4_is x (fun g hg => ?_) (gI_ok _ hz.1 (by have := hz.2; unfold maxLen; omega))
  unfold rcand at hg
  split at hg
  · exact zcand_ok hz hg
  · cases hg
theorem grts_in : ∀ (l : List Itm) (d lf : Int), 0 ≤ grts l d lf → ∀ k (h : k < l.length), ∃ lf', 0 ≤ lf' ∧ lf' ≤ lf ∧ 0 ≤ grt l[k] d lf'
  | [], _, _, _, k, h => by simp at h
  | x :: l, d, lf, h0, k, h => by
    unfold grts at h0
    split at h0
    · rename_i hc
      have h1 := grt_le x d lf hc
      have h2 := (grts_le l d (grt x d lf) (by omega)).2
      cases k with
      | zero => exact ⟨lf, hc, by omega, by show 0 ≤ grt x d lf; omega⟩
      | succ k =>
        obtain ⟨lf', a, b, c⟩ := grts_in l d _ h0 k (by simpa using h)
        exact ⟨lf', a, by omega, c⟩
    · omega
theorem grt_in (x : Itm) (d lf : Int) (h : 0 ≤ grt x d lf) (k : Nat) (hk : k < x.sub.length) : ∃ lf', 0 ≤ lf' ∧ lf' ≤ lf ∧ 0 ≤ grt (x.sub[k]) (d + 1) lf' := by
  rw [grt_sub] at h
  split at h
  · omega
  · obtain ⟨lf', a, b, c⟩ := grts_in _ _ _ h k hk
    exact ⟨lf', a, by omega, c⟩
end Go.Proofs.YtbgcbcnidjlhnaaDoor.Eid
