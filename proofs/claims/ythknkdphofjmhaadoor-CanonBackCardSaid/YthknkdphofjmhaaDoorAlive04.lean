/- The fixed calls of layer 4's statements. -/
import Derived.Test.YthknkdphofjmhaaDoorZg3
import Derived.Test.YthknkdphofjmhaaDoorEidW
namespace Go.Proofs.YthknkdphofjmhaaDoor.Eid
open Go.RowKit Wd Cb

abbrev nA : Nm := ⟨true, 7, 1, ⟨#[]⟩, ⟨#[]⟩⟩
abbrev nL : Nm := ⟨false, 0, 0, ⟨#[108, 111, 102, 116]⟩, ⟨#[105, 110]⟩⟩
abbrev tA : ByteArray := ⟨#[105, 112, 110, 58, 55, 46, 49]⟩
abbrev tB : ByteArray := ⟨#[105, 112, 110, 58, 48, 55, 46, 49]⟩
abbrev tC : ByteArray := ⟨#[100, 116, 110, 58, 110, 111, 110, 101]⟩
theorem dec_one (n : Nat) (h : n < 10) : dec (n : Int) = ⟨#[UInt8.ofNat (48 + n)]⟩ := by
  unfold dec
  rw [show ((n : Int)).toNat = n by simp, Lib.decDigits_one h]
theorem kd_ipn (n s : Int) (h d : ByteArray) : kd ⟨true, n, s, h, d⟩ = 1 := rfl
theorem right_A : right nA = true := by
  unfold right
  simp only [if_true, Lib.toList_data]
  decide
theorem text_A : textOf nA = tA := by
  unfold textOf
  rw [kd_ipn, if_neg (by decide), if_pos rfl]
  show (((⟨#[105, 112, 110, 58]⟩ : ByteArray) ++ dec ((7 : Nat) : Int)) ++ (⟨#[46]⟩ : ByteArray)) ++ dec ((1 : Nat) : Int) = tA
  rw [dec_one 7 (by omega), dec_one 1 (by omega)]
  rfl
theorem guess_A : guessOf tA.data.toList = nA := by rfl
theorem guess_B : guessOf tB.data.toList = nA := by rfl
theorem guess_C : guessOf tC.data.toList = zeroNm := by rfl
theorem kd_zero : kd zeroNm = 0 := by
  unfold kd
  simp [Lib.toList_data]
theorem right_zero : right zeroNm = true := by
  unfold right
  simp [Lib.toList_data]
theorem text_zero : textOf zeroNm = tC := by
  unfold textOf
  rw [kd_zero, if_pos rfl]
theorem parse_A : parseOf tA = nA ∧ parseE tA = 0 := by
  have h : isName tA = true := by unfold isName; rw [guess_A, right_A, text_A]; decide
  unfold parseOf parseE
  rw [h, guess_A]
  exact ⟨rfl, rfl⟩
theorem parse_B : parseOf tB = zeroNm ∧ parseE tB = 3 := by
  have h : isName tB = false := by unfold isName; rw [guess_B, right_A, text_A]; decide
  unfold parseOf parseE
  rw [h]
  exact ⟨rfl, rfl⟩
theorem parse_C : parseOf tC = zeroNm ∧ parseE tC = 0 := by
  have h : isName tC = true := by unfold isName; rw [guess_C, right_zero, text_zero]; decide
  unfold parseOf parseE
  rw [h, guess_C]
  exact ⟨rfl, rfl⟩
theorem right_L : right nL = true := by
  unfold right rt
  simp only [Bool.false_eq_true, if_false, Lib.toList_data]
  decide
theorem kd_L : kd nL = 2 := by
  unfold kd
  simp only [Bool.false_eq_true, if_false, Lib.toList_data]
  decide
theorem text_L : textOf nL = ⟨#[100, 116, 110, 58, 47, 47, 108, 111, 102, 116, 47, 105, 110]⟩ := by
  unfold textOf
  rw [kd_L, if_neg (by decide), if_neg (by decide)]
  rfl
theorem less_zA : decide (ord zeroNm nA < 0) = true := by
  unfold ord
  rw [kd_zero, kd_ipn]
  decide
theorem ok_A : nA.ok := ⟨by decide, by decide, by decide, by decide, by simp [ByteArray.size], by simp [ByteArray.size]⟩
theorem ok_L : nL.ok := ⟨by decide, by decide, by decide, by decide, by simp [ByteArray.size, maxLen], by simp [ByteArray.size, maxLen]⟩

theorem size_le {w w' : World} (h : Below w.heap.size w w') : w.heap.size ≤ w'.heap.size := h.size
end Go.Proofs.YthknkdphofjmhaaDoor.Eid
