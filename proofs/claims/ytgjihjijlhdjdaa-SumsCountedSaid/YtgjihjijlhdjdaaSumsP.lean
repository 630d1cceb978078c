/- The plain mathematics of the two sums. No program is named here. -/
namespace Go.Proofs.Ytgjihjijlhdjdaa.SumP

/-- One bit falls out. -/
def step (P s : Nat) : Nat := if s % 2 = 1 then s / 2 ^^^ P else s / 2
def steps (P : Nat) : Nat → Nat → Nat
  | 0, s => s
  | k + 1, s => steps P k (step P s)
/-- One byte more. -/
def byte (P s b : Nat) : Nat := steps P 8 (s ^^^ b)
def crc (P s : Nat) (l : List Nat) : Nat := l.foldl (byte P) s
/-- The polynomials, turned round. -/
def PS : Nat := 33800
def PL : Nat := 2197175160
def short (l : List Nat) : Nat := 65535 - crc PS 65535 l
def long (l : List Nat) : Nat := 4294967295 - crc PL 4294967295 l

theorem xor_half (a b : Nat) : (a ^^^ b) / 2 = a / 2 ^^^ b / 2 := by
  have := Nat.shiftRight_xor_distrib (a := a) (b := b) (i := 1)
  simpa [Nat.shiftRight_succ] using this
theorem xor_par (a b : Nat) : (a ^^^ b) % 2 = (a + b) % 2 := by
  have h := Nat.xor_mod_two_pow (a := a) (b := b) (n := 1)
  simp only [Nat.pow_one] at h
  rw [h]
  have ha : a % 2 = 0 ∨ a % 2 = 1 := by omega
  have hb : b % 2 = 0 ∨ b % 2 = 1 := by omega
  rcases ha with ha | ha <;> rcases hb with hb | hb <;> rw [ha, hb] <;> simp <;> omega
theorem step_xor (P a b : Nat) : step P (a ^^^ b) = step P a ^^^ step P b := by
  unfold step
  rw [xor_half, xor_par]
  have ha : a % 2 = 0 ∨ a % 2 = 1 := by omega
  have hb : b % 2 = 0 ∨ b % 2 = 1 := by omega
  rcases ha with ha | ha <;> rcases hb with hb | hb
  · rw [if_neg (by omega), if_neg (by omega), if_neg (by omega)]
  · rw [if_pos (by omega), if_neg (by omega), if_pos (by omega), Nat.xor_assoc]
  · rw [if_pos (by omega), if_pos (by omega), if_neg (by omega), Nat.xor_assoc, Nat.xor_assoc, Nat.xor_comm P]
  · rw [if_neg (by omega), if_pos (by omega), if_pos (by omega), Nat.xor_assoc, Nat.xor_comm (b / 2) P, ← Nat.xor_assoc P P, Nat.xor_self, Nat.zero_xor]
theorem steps_xor (P : Nat) : ∀ (k a b : Nat), steps P k (a ^^^ b) = steps P k a ^^^ steps P k b
  | 0, _, _ => rfl
  | k + 1, a, b => by simp only [steps]; rw [step_xor, steps_xor P k]
theorem step_twice (P x : Nat) : step P (2 * x) = x := by unfold step; rw [if_neg (by omega)]; omega
theorem steps_shift (P : Nat) : ∀ (k x : Nat), steps P k (x * 2 ^ k) = x
  | 0, x => by simp [steps]
  | k + 1, x => by
    simp only [steps]
    rw [show x * 2 ^ (k + 1) = 2 * (x * 2 ^ k) from by rw [Nat.pow_succ, ← Nat.mul_assoc, Nat.mul_comm], step_twice, steps_shift P k]
theorem steps_add (P : Nat) : ∀ (j k x : Nat), steps P (j + k) x = steps P k (steps P j x)
  | 0, k, x => by simp [steps]
  | j + 1, k, x => by rw [show j + 1 + k = (j + k) + 1 by omega]; simp only [steps]; rw [steps_add P j k]
/-- A byte and what is above it share no bit. -/
theorem split (a N k : Nat) (h : a < 2 ^ k) : a + 2 ^ k * N = a ^^^ (N * 2 ^ k) := by
  apply Nat.eq_of_testBit_eq
  intro i
  rw [Nat.add_comm, Nat.testBit_two_pow_mul_add _ h, Nat.testBit_xor, Nat.testBit_mul_two_pow]
  by_cases hi : i < k
  · simp [hi, show ¬ k ≤ i by omega]
  · simp [hi, show k ≤ i by omega, Nat.testBit_lt_two_pow (Nat.lt_of_lt_of_le h (Nat.pow_le_pow_right (by omega) (show k ≤ i by omega)))]
/-- All bytes as one number, the lowest first. -/
def num : List Nat → Nat
  | [] => 0
  | b :: l => b ^^^ (num l * 256)
theorem crc_num (P : Nat) : ∀ (l : List Nat) (s : Nat), crc P s l = steps P (8 * l.length) (s ^^^ num l)
  | [], s => by simp [crc, num, steps]
  | b :: l, s => by
    show crc P (byte P s b) l = _
    rw [crc_num P l, List.length_cons, show 8 * (l.length + 1) = 8 + 8 * l.length by omega, steps_add]
    congr 1
    simp only [num, byte]
    rw [← Nat.xor_assoc, steps_xor P 8 (s ^^^ b), show num l * 256 = num l * 2 ^ 8 from rfl, steps_shift]

/-- A state that is not 0 stays so. -/
theorem step_ne (P B s : Nat) (hP : 2 ^ B ≤ 2 * P) (hP2 : P < 2 ^ B) (h : s < 2 ^ B) (h0 : s ≠ 0) : step P s ≠ 0 ∧ step P s < 2 ^ B := by
  unfold step
  split
  · refine ⟨fun he => ?_, Nat.xor_lt_two_pow (by omega) hP2⟩
    have : s / 2 = P := by
      have h1 := congrArg (· ^^^ P) he
      simp only [Nat.xor_assoc, Nat.xor_self, Nat.xor_zero, Nat.zero_xor] at h1
      exact h1
    omega
  · exact ⟨by omega, by omega⟩
theorem steps_ne (P B : Nat) (hP : 2 ^ B ≤ 2 * P) (hP2 : P < 2 ^ B) : ∀ (k s : Nat), s < 2 ^ B → s ≠ 0 → steps P k s ≠ 0
  | 0, _, _, h0 => h0
  | k + 1, s, h, h0 => by
    have := step_ne P B s hP hP2 h h0
    simp only [steps]
    exact steps_ne P B hP hP2 k _ this.2 this.1
/-- A burst of so many bits at any place turns the sum. -/
theorem burst (P B : Nat) (hP : 2 ^ B ≤ 2 * P) (hP2 : P < 2 ^ B) (l m : List Nat) (s v i : Nat) (hl : m.length = l.length) (hn : num m = num l ^^^ (v * 2 ^ i)) (hi : i ≤ 8 * l.length) (hv : v < 2 ^ B) (h0 : v ≠ 0) :
    crc P s l ≠ crc P s m := by
  rw [crc_num, crc_num, hl, hn, ← Nat.xor_assoc, steps_xor P _ (s ^^^ num l)]
  intro he
  have h1 := congrArg (fun x => steps P (8 * l.length) (s ^^^ num l) ^^^ x) he
  simp only [← Nat.xor_assoc, Nat.xor_self, Nat.zero_xor] at h1
  obtain ⟨k, hk⟩ : ∃ k, 8 * l.length = i + k := ⟨8 * l.length - i, by omega⟩
  rw [hk, steps_add, steps_shift] at h1
  exact steps_ne P B hP hP2 k v hv h0 h1.symm
/-- The sums of three texts together. -/
theorem num_xor : ∀ (a b : List Nat), a.length = b.length → num (List.zipWith (· ^^^ ·) a b) = num a ^^^ num b
  | [], [], _ => rfl
  | x :: a, y :: b, h => by
    have ih := num_xor a b (by simpa using h)
    have hs : ∀ p q : Nat, (p ^^^ q) * 256 = p * 256 ^^^ q * 256 := fun p q => by
      have := Nat.shiftLeft_xor_distrib (a := p) (b := q) (i := 8)
      simpa [Nat.shiftLeft_eq] using this
    simp only [List.zipWith_cons_cons, num, ih, hs]
    rw [Nat.xor_assoc, Nat.xor_assoc]
    congr 1
    rw [← Nat.xor_assoc, ← Nat.xor_assoc, Nat.xor_comm y]
theorem crc_three (P s : Nat) (a b c : List Nat) (h1 : a.length = b.length) (h2 : b.length = c.length) :
    crc P s (List.zipWith (· ^^^ ·) (List.zipWith (· ^^^ ·) a b) c) = crc P s a ^^^ crc P s b ^^^ crc P s c := by
  have hl : (List.zipWith (· ^^^ ·) a b).length = c.length := by simp; omega
  rw [crc_num, crc_num, crc_num, crc_num, num_xor _ _ hl, num_xor _ _ h1]
  rw [show (List.zipWith (· ^^^ ·) (List.zipWith (· ^^^ ·) a b) c).length = c.length by simp; omega, h1, h2, ← steps_xor, ← steps_xor]
  congr 1
  apply Nat.eq_of_testBit_eq
  intro i
  simp only [Nat.testBit_xor]
  cases s.testBit i <;> cases (num a).testBit i <;> cases (num b).testBit i <;> cases (num c).testBit i <;> rfl
/-- The table does the same. -/
theorem byte_table (P s b : Nat) : byte P s b = s / 256 ^^^ steps P 8 (s % 256 ^^^ b) := by
  unfold byte
  have e : s = (s % 256) ^^^ (s / 256 * 2 ^ 8) := by
    have := split (s % 256) (s / 256) 8 (by omega)
    rw [← this]; omega
  conv => lhs; rw [e]
  rw [Nat.xor_assoc, Nat.xor_comm (s / 256 * 2 ^ 8) b, ← Nat.xor_assoc, steps_xor, steps_shift, Nat.xor_comm]
theorem step_lt (P B s : Nat) (hP2 : P < 2 ^ B) (h : s < 2 ^ B) : step P s < 2 ^ B := by
  unfold step
  split
  · exact Nat.xor_lt_two_pow (by omega) hP2
  · omega
theorem steps_lt (P B : Nat) (hP2 : P < 2 ^ B) : ∀ (k s : Nat), s < 2 ^ B → steps P k s < 2 ^ B
  | 0, _, h => h
  | k + 1, s, h => by simp only [steps]; exact steps_lt P B hP2 k _ (step_lt P B s hP2 h)
theorem byte_lt (P B s b : Nat) (hP2 : P < 2 ^ B) (h : s < 2 ^ B) (hb : b < 2 ^ B) : byte P s b < 2 ^ B := steps_lt P B hP2 8 _ (Nat.xor_lt_two_pow h hb)
theorem crc_lt (P B : Nat) (hP2 : P < 2 ^ B) (hB : 8 ≤ B) : ∀ (l : List Nat) (s : Nat), (∀ x ∈ l, x < 256) → s < 2 ^ B → crc P s l < 2 ^ B
  | [], _, _, h => h
  | b :: l, s, hl, h => by
    refine crc_lt P B hP2 hB l _ (fun x hx => hl x (by simp [hx])) (byte_lt P B s b hP2 h ?_)
    exact Nat.lt_of_lt_of_le (hl b (by simp)) (Nat.pow_le_pow_right (n := 2) (by omega) hB)
theorem crc_snoc (P s : Nat) (l : List Nat) (b : Nat) : crc P s (l ++ [b]) = byte P (crc P s l) b := by simp [crc]
end Go.Proofs.Ytgjihjijlhdjdaa.SumP
