/- Texts out of numbers: when they are equal, when one is less. No program is named here. -/
import Derived.Laws.BytesArg
import Derived.Laws.Strings
import Derived.Lib.Strings
namespace Go.Proofs.YtbgcbcnidjlhnaaDoor.St

def bts (l : List Int) : Prop := ∀ x ∈ l, 0 ≤ x ∧ x ≤ 255
def less : List Int → List Int → Bool
  | _, [] => false
  | [], _ :: _ => true
  | a :: x, b :: y => decide (a < b) || (a == b && less x y)

theorem ofNat_lt (a b : Int) (ha : 0 ≤ a ∧ a ≤ 255) (hb : 0 ≤ b ∧ b ≤ 255) : (UInt8.ofNat a.toNat < UInt8.ofNat b.toNat) ↔ a < b := by
  rw [UInt8.lt_iff_toNat_lt, UInt8.toNat_ofNat', UInt8.toNat_ofNat', Nat.mod_eq_of_lt (by omega), Nat.mod_eq_of_lt (by omega)]
  omega
theorem ofNat_eq (a b : Int) (ha : 0 ≤ a ∧ a ≤ 255) (hb : 0 ≤ b ∧ b ≤ 255) : (UInt8.ofNat a.toNat = UInt8.ofNat b.toNat) ↔ a = b := by
  constructor
  · intro h
    have h1 := congrArg UInt8.toNat h
    rw [UInt8.toNat_ofNat', UInt8.toNat_ofNat', Nat.mod_eq_of_lt (by omega), Nat.mod_eq_of_lt (by omega)] at h1
    omega
  · rintro rfl; rfl
theorem less_bytes : ∀ (x y : List Int), bts x → bts y → Op.bytesLess (x.map fun n => UInt8.ofNat n.toNat) (y.map fun n => UInt8.ofNat n.toNat) = less x y
  | _, [], _, _ => by simp [Op.bytesLess, less]
  | [], _ :: _, _, _ => by simp [Op.bytesLess, less]
  | a :: x, b :: y, hx, hy => by
    have ha := hx a (by simp)
    have hb := hy b (by simp)
    have ih := less_bytes x y (fun z hz => hx z (by simp [hz])) (fun z hz => hy z (by simp [hz]))
    simp only [List.map_cons, Op.bytesLess, less, ih]
    congr 1
    · exact decide_eq_decide.2 (ofNat_lt a b ha hb)
    · congr 1
      rw [Bool.eq_iff_iff]
      simp [ofNat_eq a b ha hb]
theorem toList_nums (x : List Int) : (strOfNums x).toList = x.map fun n => UInt8.ofNat n.toNat := by rw [Lib.toList_data, strOfNums_data]
theorem less_nums (x y : List Int) (hx : bts x) (hy : bts y) : Op.bytesLess (strOfNums x).toList (strOfNums y).toList = less x y := by
  rw [toList_nums, toList_nums, less_bytes x y hx hy]
theorem map_inj : ∀ (x y : List Int), bts x → bts y → (x.map fun n => UInt8.ofNat n.toNat) = (y.map fun n => UInt8.ofNat n.toNat) → x = y
  | [], [], _, _, _ => rfl
  | [], _ :: _, _, _, h => by simp at h
  | _ :: _, [], _, _, h => by simp at h
  | a :: x, b :: y, hx, hy, h => by
    simp only [List.map_cons, List.cons.injEq] at h
    have h1 := (ofNat_eq a b (hx a (by simp)) (hy b (by simp))).1 h.1
    have h2 := map_inj x y (fun z hz => hx z (by simp [hz])) (fun z hz => hy z (by simp [hz])) h.2
    rw [h1, h2]
theorem nums_inj (x y : List Int) (hx : bts x) (hy : bts y) (h : strOfNums x = strOfNums y) : x = y := by
  refine map_inj x y hx hy ?_
  rw [← toList_nums, ← toList_nums, h]
theorem nums_beq (x y : List Int) (hx : bts x) (hy : bts y) : ((strOfNums x).toList == (strOfNums y).toList) = decide (x = y) := by
  rw [toList_nums, toList_nums, Bool.eq_iff_iff, beq_iff_eq, decide_eq_true_eq]
  exact ⟨map_inj x y hx hy, fun h => by rw [h]⟩
end Go.Proofs.YtbgcbcnidjlhnaaDoor.St
