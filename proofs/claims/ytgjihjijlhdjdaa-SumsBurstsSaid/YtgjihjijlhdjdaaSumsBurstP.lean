/- What turned bits do to the sums: no program is named here. -/
import Derived.Test.YtgjihjijlhdjdaaSumsTogether
namespace Go.Proofs.Ytgjihjijlhdjdaa.SumsBursts
open Go.RowKit Wd SumW Ctr SumsAlive SumsTogether
attribute [local go_sem ↓] Go.wp_at_zero Go.wp_at_succ

theorem xor_mul (k a b : Nat) : (a ^^^ b) * 2 ^ k = a * 2 ^ k ^^^ b * 2 ^ k := by
  apply Nat.eq_of_testBit_eq
  intro i
  simp only [Nat.testBit_xor, Nat.testBit_mul_two_pow]
  by_cases hi : k ≤ i <;> simp [hi]
theorem num_set : ∀ (l : List Nat) (j e : Nat), j < l.length → SumP.num (l.set j (l.getD j 0 ^^^ e)) = SumP.num l ^^^ (e * 256 ^ j)
  | [], j, e, h => by simp at h
  | b :: l, 0, e, _ => by
    simp only [List.set_cons_zero, List.getD_cons_zero, SumP.num, Nat.pow_zero, Nat.mul_one]
    rw [Nat.xor_assoc, Nat.xor_assoc, Nat.xor_comm e]
  | b :: l, j + 1, e, h => by
    simp only [List.set_cons_succ, List.getD_cons_succ, SumP.num]
    rw [num_set l j e (by simpa using h), show (256 : Nat) = 2 ^ 8 from rfl, xor_mul, ← Nat.xor_assoc, Nat.mul_assoc, ← Nat.pow_succ]

/-- The turned text behind so many rounds. -/
def turned (xs : List Int) (a v : Nat) : Nat → List Int
  | 0 => xs
  | k + 1 => if v / 2 ^ k % 2 = 1 then (turned xs a v k).set ((a + k) / 8) ((((turned xs a v k).getD ((a + k) / 8) 0).toNat ^^^ 2 ^ ((a + k) % 8) : Nat) : Int) else turned xs a v k
theorem turned_length (xs : List Int) (a v : Nat) : ∀ k, (turned xs a v k).length = xs.length
  | 0 => rfl
  | k + 1 => by
    unfold turned
    split
    · rw [List.length_set, turned_length xs a v k]
    · exact turned_length xs a v k
theorem pow_lt (r : Nat) (h : r < 8) : 2 ^ r < 256 := Nat.lt_of_lt_of_le (Nat.pow_lt_pow_right (by omega) h) (by decide)
theorem byte_xor (y : Int) (r : Nat) (h : r < 8) (h0 : 0 ≤ y) (h1 : y ≤ 255) : y.toNat ^^^ 2 ^ r < 256 := Nat.xor_lt_two_pow (n := 8) (by omega) (pow_lt r h)
theorem turned_bts (xs : List Int) (a v : Nat) (h : St.bts xs) : ∀ k, St.bts (turned xs a v k)
  | 0 => h
  | k + 1 => by
    unfold turned
    split
    · intro x hx
      rcases List.mem_or_eq_of_mem_set hx with hx | rfl
      · exact turned_bts xs a v h k x hx
      · have g := getD_bound _ (turned_bts xs a v h k) ((a + k) / 8)
        have := byte_xor _ ((a + k) % 8) (by omega) g.1 g.2
        omega
    · exact turned_bts xs a v h k
theorem nb_getD (l : List Int) (j : Nat) : (nb l).getD j 0 = (l.getD j 0).toNat := by
  unfold nb
  rcases Nat.lt_or_ge j l.length with h | h
  · simp [List.getD, List.getElem?_eq_getElem h]
  · simp [List.getD, List.getElem?_eq_none h]
theorem nb_length (l : List Int) : (nb l).length = l.length := by simp [nb]
theorem turned_num (xs : List Int) (a v : Nat) : ∀ k, (∀ i, i < k → (a + i) / 8 < xs.length) → SumP.num (nb (turned xs a v k)) = SumP.num (nb xs) ^^^ (v % 2 ^ k * 2 ^ a)
  | 0, _ => by simp [turned, Nat.mod_one]
  | k + 1, h => by
    have ih := turned_num xs a v k (fun i hi => h i (by omega))
    have hs : v % 2 ^ (k + 1) = v % 2 ^ k ^^^ (v / 2 ^ k % 2 * 2 ^ k) := by
      rw [Nat.mod_pow_succ, SumP.split _ _ _ (Nat.mod_lt _ (Nat.two_pow_pos k))]
    unfold turned
    rw [hs, xor_mul]
    split
    · rename_i h1
      have hn : nb ((turned xs a v k).set ((a + k) / 8) ((((turned xs a v k).getD ((a + k) / 8) 0).toNat ^^^ 2 ^ ((a + k) % 8) : Nat) : Int)) = (nb (turned xs a v k)).set ((a + k) / 8) ((nb (turned xs a v k)).getD ((a + k) / 8) 0 ^^^ 2 ^ ((a + k) % 8)) := by
        rw [nb_getD]
        unfold nb
        rw [List.map_set]
        simp
      rw [hn, num_set _ _ _ (by rw [nb_length, turned_length]; exact h k (by omega)), ih, h1, Nat.xor_assoc]
      congr 2
      rw [show (256 : Nat) = 2 ^ 8 from rfl, ← Nat.pow_mul, ← Nat.pow_add, Nat.one_mul, ← Nat.pow_add]
      congr 1
      omega
    · rename_i h1
      rw [show v / 2 ^ k % 2 = 0 by omega, ih]
      simp
theorem long_differs (xs : List Int) (a v : Nat) (h : St.bts xs) (h0 : v ≠ 0) (hv : v < 4294967296) (ha : a + 32 ≤ 8 * xs.length) : SumP.long (nb xs) ≠ SumP.long (nb (turned xs a v 32)) := by
  have hn := turned_num xs a v 32 (fun i hi => by omega)
  rw [Nat.mod_eq_of_lt (by omega)] at hn
  have hb := SumP.burst SumP.PL 32 (by decide) (by decide) (nb xs) (nb (turned xs a v 32)) 4294967295 v a (by rw [nb_length, nb_length, turned_length]) hn (by rw [nb_length]; omega) (by omega) h0
  have l1 := SumP.crc_lt SumP.PL 32 (by decide) (by decide) (nb xs) 4294967295 (nb_lt xs h) (by decide)
  have l2 := SumP.crc_lt SumP.PL 32 (by decide) (by decide) (nb (turned xs a v 32)) 4294967295 (nb_lt _ (turned_bts xs a v h 32)) (by decide)
  unfold SumP.long
  omega
theorem short_differs (xs : List Int) (a v : Nat) (h : St.bts xs) (h0 : v ≠ 0) (hv : v < 65536) (ha : a + 32 ≤ 8 * xs.length) : SumP.short (nb xs) ≠ SumP.short (nb (turned xs a v 32)) := by
  have hn := turned_num xs a v 32 (fun i hi => by omega)
  rw [Nat.mod_eq_of_lt (by omega)] at hn
  have hb := SumP.burst SumP.PS 16 (by decide) (by decide) (nb xs) (nb (turned xs a v 32)) 65535 v a (by rw [nb_length, nb_length, turned_length]) hn (by rw [nb_length]; omega) (by omega) h0
  have l1 := SumP.crc_lt SumP.PS 16 (by decide) (by decide) (nb xs) 65535 (nb_lt xs h) (by decide)
  have l2 := SumP.crc_lt SumP.PS 16 (by decide) (by decide) (nb (turned xs a v 32)) 65535 (nb_lt _ (turned_bts xs a v h 32)) (by decide)
  unfold SumP.short
  omega

/-- An owned row of bytes, read and written in its place. -/
theorem own_at {w : World} {B g n c : Nat} {t : TypeId} {cs : List Int} (h : w.ownsRow B t 1 (.slice (some ⟨g, 0, none⟩) n c) n (u8s cs)) (j : Nat) (hj : j < n) :
    w.cell? ⟨g, j, none⟩ = some (.int .u8 (cs.getD j 0)) ∧ w.frozen? ⟨g, j, none⟩ = false ∧ (∀ y : Int, (w.setCell ⟨g, j, none⟩ (.int .u8 y)).ownsRow B t 1 (.slice (some ⟨g, 0, none⟩) n c) n (u8s (cs.set j y))) := by
  obtain ⟨hl, h⟩ := h
  rcases h with ⟨h, _⟩ | ⟨g', cap, cur, h, hB, hb, hc, hm, hs, ht⟩
  · injection h with h; cases h
  · injection h with h h1 h2
    injection h with h
    injection h with h
    subst h h2
    have hlen : cs.length = n := by simpa [u8s] using hl
    have hget : cur[j]? = (u8s cs)[j]? := by
      rw [← ht, List.getElem?_take_of_lt (by omega)]
      simp
    refine ⟨?_, frozen_of_row w g j cur t hb, fun y => ⟨by simpa [u8s] using hl, .inr ⟨g, c, cur.setIfInBounds j (.int .u8 y), rfl, hB, heap_setCell_same w g j cur t _ hb, hc, hm, by simpa using hs, ?_⟩⟩⟩
    · rw [cell_of_row w g j cur t (0, 0) hb, hget]
      simp [u8s, List.getD, List.getElem?_eq_getElem (show j < cs.length by omega)]
    · rw [Array.toList_setIfInBounds, List.take_set, ht]
      simp [u8s, List.map_set]
theorem own_some {w : World} {B n : Nat} {t : TypeId} {v : Value} {vs : List Value} (h : w.ownsRow B t 1 v n vs) (hn : 0 < n) : ∃ g c, v = .slice (some ⟨g, 0, none⟩) n c ∧ B ≤ g ∧ g < w.heap.size := by
  rcases h.2 with ⟨_, h0⟩ | ⟨g, cap, cur, h, hB, hb, _⟩
  · omega
  · exact ⟨g, cap, h, hB, (by
      rcases Nat.lt_or_ge g w.heap.size with h1 | h1
      · exact h1
      · rw [Array.getElem?_eq_none h1] at hb; cases hb)⟩
end Go.Proofs.Ytgjihjijlhdjdaa.SumsBursts
