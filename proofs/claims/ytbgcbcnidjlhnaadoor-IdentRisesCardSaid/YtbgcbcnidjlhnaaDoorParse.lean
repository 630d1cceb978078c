/- The contract of eid.Parse. -/
import Derived.Test.YtbgcbcnidjlhnaaDoorGuess
namespace Go.Proofs.YtbgcbcnidjlhnaaDoor.Eid
open Go.RowKit Wd

theorem parseM_le (M : Nat) : ∀ (l : List UInt8) (acc u : Nat), acc ≤ M → Lib.parseUintM M acc l = .ok u → u ≤ M
  | [], acc, u, ha, h => by
    simp only [Lib.parseUintM, Lib.NumEnd.ok.injEq] at h
    omega
  | c :: r, acc, u, ha, h => by
    unfold Lib.parseUintM at h
    split at h
    · split at h
      · cases h
      · split at h
        · cases h
        · exact parseM_le M r _ u (by omega) h
    · cases h
theorem dg_range (l : List UInt8) : 0 ≤ dg l ∧ dg l ≤ 4294967295 := by
  unfold dg
  split
  · rename_i u hu
    unfold Lib.parseUintB at hu
    split at hu
    · cases hu
    · have := parseM_le (2 ^ 32 - 1) l 0 u (by omega) hu
      omega
  · omega
theorem gT_size (l : List UInt8) : (gT l).host.size ≤ l.length ∧ (gT l).demux.size ≤ l.length := by
  unfold gT
  split
  · have h1 := trim_le l [47, 47]
    have h2 := cut_le (Lib.trimPrefix l [47, 47]) [47]
    exact ⟨Nat.le_trans h2.1 h1, Nat.le_trans h2.2 h1⟩
  · exact ⟨Nat.zero_le _, Nat.zero_le _⟩
theorem gT_nums (l : List UInt8) : (gT l).node = 0 ∧ (gT l).service = 0 ∧ (gT l).ipn = false := by
  unfold gT
  split <;> exact ⟨rfl, rfl, rfl⟩
theorem zero_ok : zeroNm.ok := ⟨by decide, by decide, by decide, by decide, by simp [ByteArray.size], by simp [ByteArray.size]⟩
theorem gT_ok (l : List UInt8) (hl : l.length ≤ maxLen) : (gT l).ok := by
  obtain ⟨a, b, _⟩ := gT_nums l
  obtain ⟨c, d⟩ := gT_size l
  exact ⟨by omega, by omega, by omega, by omega, by omega, by omega⟩
theorem guess_ok (l : List UInt8) (hl : l.length ≤ maxLen) : (guessOf l).ok := by
  unfold guessOf
  split
  · have h1 := dg_range (Lib.cut (Lib.trimPrefix l [105, 112, 110, 58]) [46]).1
    have h2 := dg_range (Lib.cut (Lib.trimPrefix l [105, 112, 110, 58]) [46]).2.1
    exact ⟨h1.1, Int.le_trans h1.2 (by decide), h2.1, Int.le_trans h2.2 (by decide), by simp [ByteArray.size], by simp [ByteArray.size]⟩
  · split
    · exact gT_ok _ (Nat.le_trans (trim_le _ _) hl)
    · exact zero_ok

theorem toList_inj {a b : ByteArray} (h : a.toList = b.toList) : a = b := by
  rw [Lib.toList_data, Lib.toList_data] at h
  obtain ⟨⟨x⟩⟩ := a
  obtain ⟨⟨y⟩⟩ := b
  replace h : x = y := h
  rw [h]

/-- Is a text a name's? -/
def isName (s : ByteArray) : Bool := right (guessOf s.data.toList) && decide (textOf (guessOf s.data.toList) = s)
/-- The name of a text. -/
def parseOf (s : ByteArray) : Nm := if isName s then guessOf s.data.toList else zeroNm
/-- .. and its errno. -/
def parseE (s : ByteArray) : Int := if isName s then 0 else 3

end Go.Proofs.YtbgcbcnidjlhnaaDoor.Eid
