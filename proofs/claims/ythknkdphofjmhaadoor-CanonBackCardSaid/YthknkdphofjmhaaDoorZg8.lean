/- Texts of my own, laid together: SumsP, SumsW. -/
import Derived.Test.YthknkdphofjmhaaDoorZg1
import Derived.Test.YthknkdphofjmhaaDoorZg7
import Derived.Test.YthknkdphofjmhaaDoorProg
import Derived.WalkKit
import Derived.WalkSpells
import Derived.Lib.Hide
import Derived.Outline
import Derived.Deep.QuietTactic
import Derived.BigQuiet
/- The plain mathematics of the two sums. No program is named here. -/
namespace Go.Proofs.YthknkdphofjmhaaDoor.SumP

/-- One bit falls out. -/
def step (P s : Nat) : Nat := if s % 2 = 1 then s / 2 ^^^ P else s / 2
def steps (P : Nat) : Nat → Nat → Nat
  | 0, s => s
  | k + 1, s => steps P k (step P s)
/-- One byte more. -/
def byte (P s b : Nat) : Nat := steps P 8 (s ^^^ b)
def crc (P s : Nat) (l : List Nat) : Nat := l.foldl (byte P) s
/-- The polynomials, turned round. -/
def PS : Nat := 33800
def PL : Nat := 2197175160
def short (l : List Nat) : Nat := 65535 - crc PS 65535 l
def long (l : List Nat) : Nat := 4294967295 - crc PL 4294967295 l

theorem xor_half (a b : Nat) : (a ^^^ b) / 2 = a / 2 ^^^ b / 2 := by
  have := Nat.shiftRight_xor_distrib (a := a) (b := b) (i := 1)
  simpa [Nat.shiftRight_succ] using this
theorem xor_par (a b : Nat) : (a ^^^ b) % 2 = (a + b) % 2 := by
  have h := Nat.xor_mod_two_pow (a := a) (b := b) (n := 1)
  simp only [Nat.pow_one] at h
  rw [h]
  have ha : a % 2 = 0 ∨ a % 2 = 1 := by omega
  have hb : b % 2 = 0 ∨ b % 2 = 1 := by omega
  rcases ha with ha | ha <;> rcases hb with hb | hb <;> rw [ha, hb] <;> simp <;> omega
theorem step_xor (P a b : Nat) : step P (a ^^^ b) = step P a ^^^ step P b := by
  unfold step
  rw [xor_half, xor_par]
  have ha : a % 2 = 0 ∨ a % 2 = 1 := by omega
  have hb : b % 2 = 0 ∨ b % 2 = 1 := by omega
  rcases ha with ha | ha <;> rcases hb with hb | hb
  · rw [if_neg (by omega), if_neg (by omega), if_neg (by omega)]
  · rw [if_pos (by omega), if_neg (by omega), if_pos (by omega), Nat.xor_assoc]
  · rw [if_pos (by omega), if_pos (by omega), if_neg (by omega), Nat.xor_assoc, Nat.xor_assoc, Nat.xor_comm P]
  · rw [if_neg (by omega), if_pos (by omega), if_pos (by omega), Nat.xor_assoc, Nat.xor_comm (b / 2) P, ← Nat.xor_assoc P P, Nat.xor_self, Nat.zero_xor]
theorem steps_xor (P : Nat) : ∀ (k a b : Nat), steps P k (a ^^^ b) = steps P k a ^^^ steps P k b
  | 0, _, _ => rfl
  | k + 1, a, b => by simp only [steps]; rw [step_xor, steps_xor P k]
theorem step_twice (P x : Nat) : step P (2 * x) = x := by unfold step; rw [if_neg (by omega)]; omega
theorem steps_shift (P : Nat) : ∀ (k x : Nat), steps P k (x * 2 ^ k) = x
  | 0, x => by simp [steps]
  | k + 1, x => by
    simp only [steps]
    rw [show x * 2 ^ (k + 1) = 2 * (x * 2 ^ k) from by rw [Nat.pow_succ, ← Nat.mul_assoc, Nat.mul_comm], step_twice, steps_shift P k]
theorem steps_add (P : Nat) : ∀ (j k x : Nat), steps P (j + k) x = steps P k (steps P j x)
  | 0, k, x => by simp [steps]
  | j + 1, k, x => by rw [show j + 1 + k = (j + k) + 1 by omega]; simp only [steps]; rw [steps_add P j k]
/-- A byte and what is above it share no bit. -/
theorem split (a N k : Nat) (h : a < 2 ^ k) : a + 2 ^ k * N = a ^^^ (N * 2 ^ k) := by
  apply Nat.eq_of_testBit_eq
  intro i
  rw [Nat.add_comm, Nat.testBit_two_pow_mul_add _ h, Nat.testBit_xor, Nat.testBit_mul_two_pow]
  by_cases hi : i < k
  · simp [hi, show ¬ k ≤ i by omega]
  · simp [hi, show k ≤ i by omega, Nat.testBit_lt_two_pow (Nat.lt_of_lt_of_le h (Nat.pow_le_pow_right (by omega) (show k ≤ i by omega)))]
/-- All bytes as one number, the lowest first. -/
def num : List Nat → Nat
  | [] => 0
  | b :: l => b ^^^ (num l * 256)
theorem crc_num (P : Nat) : ∀ (l : List Nat) (s : Nat), crc P s l = steps P (8 * l.length) (s ^^^ num l)
  | [], s => by simp [crc, num, steps]
  | b :: l, s => by
    show crc P (byte P s b) l = _
    rw [crc_num P l, List.length_cons, show 8 * (l.length + 1) = 8 + 8 * l.length by omega, steps_add]
    congr 1
    simp only [num, byte]
    rw [← Nat.xor_assoc, steps_xor P 8 (s ^^^ b), show num l * 256 = num l * 2 ^ 8 from rfl, steps_shift]

/-- A state that is not 0 stays so. -/
theorem step_ne (P B s : Nat) (hP : 2 ^ B ≤ 2 * P) (hP2 : P < 2 ^ B) (h : s < 2 ^ B) (h0 : s ≠ 0) : step P s ≠ 0 ∧ step P s < 2 ^ B := by
  unfold step
  split
  · refine ⟨fun he => ?_, Nat.xor_lt_two_pow (by omega) hP2⟩
    have : s / 2 = P := by
      have h1 := congrArg (· ^^^ P) he
      simp only [Nat.xor_assoc, Nat.xor_self, Nat.xor_zero, Nat.zero_xor] at h1
      exact h1
    omega
  · exact ⟨by omega, by omega⟩
theorem steps_ne (P B : Nat) (hP : 2 ^ B ≤ 2 * P) (hP2 : P < 2 ^ B) : ∀ (k s : Nat), s < 2 ^ B → s ≠ 0 → steps P k s ≠ 0
  | 0, _, _, h0 => h0
  | k + 1, s, h, h0 => by
    have := step_ne P B s hP hP2 h h0
    simp only [steps]
    exact steps_ne P B hP hP2 k _ this.2 this.1
/-- A burst of so many bits at any place turns the sum. -/
theorem burst (P B : Nat) (hP : 2 ^ B ≤ 2 * P) (hP2 : P < 2 ^ B) (l m : List Nat) (s v i : Nat) (hl : m.length = l.length) (hn : num m = num l ^^^ (v * 2 ^ i)) (hi : i ≤ 8 * l.length) (hv : v < 2 ^ B) (h0 : v ≠ 0) :
    crc P s l ≠ crc P s m := by
  rw [crc_num, crc_num, hl, hn, ← Nat.xor_assoc, steps_xor P _ (s ^^^ num l)]
  intro he
  have h1 := congrArg (fun x => steps P (8 * l.length) (s ^^^ num l) ^^^ x) he
  simp only [← Nat.xor_assoc, Nat.xor_self, Nat.zero_xor] at h1
  obtain ⟨k, hk⟩ : ∃ k, 8 * l.length = i + k := ⟨8 * l.length - i, by omega⟩
  rw [hk, steps_add, steps_shift] at h1
  exact steps_ne P B hP hP2 k v hv h0 h1.symm
/-- The sums of three texts together. -/
theorem num_xor : ∀ (a b : List Nat), a.length = b.length → num (List.zipWith (· ^^^ ·) a b) = num a ^^^ num b
  | [], [], _ => rfl
  | x :: a, y :: b, h => by
    have ih := num_xor a b (by simpa using h)
    have hs : ∀ p q : Nat, (p ^^^ q) * 256 = p * 256 ^^^ q * 256 := fun p q => by
      have := Nat.shiftLeft_xor_distrib (a := p) (b := q) (i := 8)
      simpa [Nat.shiftLeft_eq] using this
    simp only [List.zipWith_cons_cons, num, ih, hs]
    rw [Nat.xor_assoc, Nat.xor_assoc]
    congr 1
    rw [← Nat.xor_assoc, ← Nat.xor_assoc, Nat.xor_comm y]
theorem crc_three (P s : Nat) (a b c : List Nat) (h1 : a.length = b.length) (h2 : b.length = c.length) :
    crc P s (List.zipWith (· ^^^ ·) (List.zipWith (· ^^^ ·) a b) c) = crc P s a ^^^ crc P s b ^^^ crc P s c := by
  have hl : (List.zipWith (· ^^^ ·) a b).length = c.length := by simp; omega
  rw [crc_num, crc_num, crc_num, crc_num, num_xor _ _ hl, num_xor _ _ h1]
  rw [show (List.zipWith (· ^^^ ·) (List.zipWith (· ^^^ ·) a b) c).length = c.length by simp; omega, h1, h2, ← steps_xor, ← steps_xor]
  congr 1
  apply Nat.eq_of_testBit_eq
  intro i
  simp only [Nat.testBit_xor]
  cases s.testBit i <;> cases (num a).testBit i <;> cases (num b).testBit i <;> cases (num c).testBit i <;> rfl
/-- The table does the same. -/
theorem byte_table (P s b : Nat) : byte P s b = s / 256 ^^^ steps P 8 (s % 256 ^^^ b) := by
  unfold byte
  have e : s = (s % 256) ^^^ (s / 256 * 2 ^ 8) := by
    have := split (s % 256) (s / 256) 8 (by omega)
    rw [← this]; omega
  conv => lhs; rw [e]
  rw [Nat.xor_assoc, Nat.xor_comm (s / 256 * 2 ^ 8) b, ← Nat.xor_assoc, steps_xor, steps_shift, Nat.xor_comm]
theorem step_lt (P B s : Nat) (hP2 : P < 2 ^ B) (h : s < 2 ^ B) : step P s < 2 ^ B := by
  unfold step
  split
  · exact Nat.xor_lt_two_pow (by omega) hP2
  · omega
theorem steps_lt (P B : Nat) (hP2 : P < 2 ^ B) : ∀ (k s : Nat), s < 2 ^ B → steps P k s < 2 ^ B
  | 0, _, h => h
  | k + 1, s, h => by simp only [steps]; exact steps_lt P B hP2 k _ (step_lt P B s hP2 h)
theorem byte_lt (P B s b : Nat) (hP2 : P < 2 ^ B) (h : s < 2 ^ B) (hb : b < 2 ^ B) : byte P s b < 2 ^ B := steps_lt P B hP2 8 _ (Nat.xor_lt_two_pow h hb)
theorem crc_lt (P B : Nat) (hP2 : P < 2 ^ B) (hB : 8 ≤ B) : ∀ (l : List Nat) (s : Nat), (∀ x ∈ l, x < 256) → s < 2 ^ B → crc P s l < 2 ^ B
  | [], _, _, h => h
  | b :: l, s, hl, h => by
    refine crc_lt P B hP2 hB l _ (fun x hx => hl x (by simp [hx])) (byte_lt P B s b hP2 h ?_)
    exact Nat.lt_of_lt_of_le (hl b (by simp)) (Nat.pow_le_pow_right (n := 2) (by omega) hB)
theorem crc_snoc (P s : Nat) (l : List Nat) (b : Nat) : crc P s (l ++ [b]) = byte P (crc P s l) b := by simp [crc]
end Go.Proofs.YthknkdphofjmhaaDoor.SumP
/- Contracts of the plain functions of package sums, and of the document's own answers. -/
namespace Go.Proofs.YthknkdphofjmhaaDoor.SumW
open Go.RowKit Wd

theorem steps_last (P k s : Nat) : SumP.steps P (k + 1) s = SumP.step P (SumP.steps P k s) := by rw [SumP.steps_add]; rfl

theorem shortStep_any (s : Nat) (w : World) (hs : s < 65536) : Calls Tryd.prog 83 #[.int .u16 s] w fun e w' => e = .returned (.int .u16 (SumP.steps SumP.PS 8 s : Nat)) ∧ w = w' := by
  go_enter Tryd.func83, Tryd.ntmps83
  go_wp2_with fail
  go_loop [0, 4] (fun v i => ∃ k t : Nat, k ≤ 8 ∧ i = .int .i64 k ∧ v = .int .u16 t ∧ t < 65536 ∧ Hid (t = SumP.steps SumP.PS k s)) (fun _ i => 8 - (intOf i).toNat)
  case atStart => exact ⟨0, s, by omega, rfl, rfl, hs, rfl⟩
  case round =>
    obtain ⟨k, t, hk, rfl, rfl, ht, hH⟩ := hrel
    by_cases hlt : k < 8
    · by_cases hp : t % 2 = 1
      · have hb : (bits .and .u16 (t : Int) 1 == 1) = true := by rw [Bt.u16_bit t ht, hp]; rfl
        have hx := Lib.hid (Bt.u16_xor_half t 33800 ht (by omega))
        go_wp2_with fail
        refine ⟨⟨k + 1, t / 2 ^^^ 33800, hlt, by go_num, by rw [← hx.out]; rfl, Nat.xor_lt_two_pow (n := 16) (by omega) (by omega), ?_⟩, by simp [intOf]; omega⟩
        show t / 2 ^^^ 33800 = _
        rw [steps_last, ← hH.out]
        unfold SumP.step
        rw [if_pos hp]; rfl
      · have hb : (bits .and .u16 (t : Int) 1 == 1) = false := by rw [Bt.u16_bit t ht, show t % 2 = 0 by omega]; rfl
        go_wp2_with fail
        refine ⟨⟨k + 1, t / 2, hlt, by go_num, by rw [Int.natCast_ediv]; rfl, by omega, ?_⟩, by simp [intOf]; omega⟩
        show t / 2 = _
        rw [steps_last, ← hH.out]
        unfold SumP.step
        rw [if_neg hp]
    · obtain rfl : k = 8 := by omega
      go_wp2_with fail
      go_ret
      exact ⟨by rw [hH.out]; rfl, rfl⟩

theorem longStep_any (s : Nat) (w : World) (hs : s < 4294967296) : Calls Tryd.prog 82 #[.int .u32 s] w fun e w' => e = .returned (.int .u32 (SumP.steps SumP.PL 8 s : Nat)) ∧ w = w' := by
  go_enter Tryd.func82, Tryd.ntmps82
  go_wp2_with fail
  go_loop [0, 4] (fun v i => ∃ k t : Nat, k ≤ 8 ∧ i = .int .i64 k ∧ v = .int .u32 t ∧ t < 4294967296 ∧ Hid (t = SumP.steps SumP.PL k s)) (fun _ i => 8 - (intOf i).toNat)
  case atStart => exact ⟨0, s, by omega, rfl, rfl, hs, rfl⟩
  case round =>
    obtain ⟨k, t, hk, rfl, rfl, ht, hH⟩ := hrel
    by_cases hlt : k < 8
    · by_cases hp : t % 2 = 1
      · have hb : (bits .and .u32 (t : Int) 1 == 1) = true := by rw [Bt.u32_bit t ht, hp]; rfl
        have hx := Lib.hid (Bt.u32_xor_half t 2197175160 ht (by omega))
        go_wp2_with fail
        refine ⟨⟨k + 1, t / 2 ^^^ 2197175160, hlt, by go_num, by rw [← hx.out]; rfl, Nat.xor_lt_two_pow (n := 32) (by omega) (by omega), ?_⟩, by simp [intOf]; omega⟩
        show t / 2 ^^^ 2197175160 = _
        rw [steps_last, ← hH.out]
        unfold SumP.step
        rw [if_pos hp]; rfl
      · have hb : (bits .and .u32 (t : Int) 1 == 1) = false := by rw [Bt.u32_bit t ht, show t % 2 = 0 by omega]; rfl
        go_wp2_with fail
        refine ⟨⟨k + 1, t / 2, hlt, by go_num, by rw [Int.natCast_ediv]; rfl, by omega, ?_⟩, by simp [intOf]; omega⟩
        show t / 2 = _
        rw [steps_last, ← hH.out]
        unfold SumP.step
        rw [if_neg hp]
    · obtain rfl : k = 8 := by omega
      go_wp2_with fail
      go_ret
      exact ⟨by rw [hH.out]; rfl, rfl⟩

/-- Bytes as whole numbers. -/
def nb (xs : List Int) : List Nat := xs.map Int.toNat
theorem nb_snoc (xs : List Int) (y : Int) : nb (xs ++ [y]) = nb xs ++ [y.toNat] := by simp [nb]
theorem take_snoc (xs : List Int) (k : Nat) (h : k < xs.length) : xs.take (k + 1) = xs.take k ++ [xs.getD k 0] := by
  rw [List.take_succ_eq_append_getElem h]
  simp [List.getD, List.getElem?_eq_getElem h]

theorem short_any (A : Option Addr) (B c : Nat) (xs : List Int) (w : World) (hs : Lst w B A (u8s xs)) (hx : St.bts xs) (hl : xs.length ≤ maxLen) :
    Calls Tryd.prog 60 #[.slice A xs.length c] w fun e w' => e = .returned (.int .u16 (SumP.short (nb xs) : Nat)) ∧ w = w' := by
  unfold maxLen at hl
  go_enter Tryd.func60, Tryd.ntmps60
  go_wp2_with fail
  go_loop [3, 8] (fun v i => ∃ k t : Nat, k ≤ xs.length ∧ i = .int .i64 k ∧ v = .int .u16 t ∧ t < 65536 ∧ Hid (t = SumP.crc SumP.PS 65535 (nb (xs.take k)))) (fun _ i => xs.length - (intOf i).toNat)
  case atStart => exact ⟨0, 65535, by omega, rfl, rfl, by omega, rfl⟩
  case round =>
    obtain ⟨k, t, hk, rfl, rfl, ht, hH⟩ := hrel
    by_cases hlt : k < xs.length
    · obtain ⟨b, o, rfl, hb, hc⟩ := hs.bytes hlt
      have hck := hc k hlt
      have hyb : 0 ≤ xs.getD k 0 ∧ xs.getD k 0 ≤ 255 := hx _ (by simp [List.getD, List.getElem?_eq_getElem hlt])
      have HT := Lib.hid (take_snoc xs k hlt)
      clear hc hs hx
      generalize hy : xs.getD k 0 = y at *
      have hxx := Lib.hid (Bt.u16_xor_int t y ht hyb.1 hyb.2)
      have hlt2 : t ^^^ y.toNat < 65536 := Nat.xor_lt_two_pow (n := 16) ht (by omega)
      clear hy
      go_wp2_with fail
      rw [hxx.out]
      refine (shortStep_any (t ^^^ y.toNat) _ hlt2).mono ?_
      rintro e w1 ⟨rfl, rfl⟩
      have hsl := SumP.steps_lt SumP.PS 16 (by decide) 8 (t ^^^ y.toNat) hlt2
      have hfin : SumP.steps SumP.PS 8 (t ^^^ y.toNat) = SumP.crc SumP.PS 65535 (nb (xs.take (k + 1))) := by
        rw [HT.out, nb_snoc, SumP.crc_snoc, ← hH.out]; rfl
      have HF := Lib.hid hfin
      clear hfin
      generalize SumP.steps SumP.PS 8 (t ^^^ y.toNat) = q at *
      go_wp2_with fail
      exact ⟨⟨k + 1, q, hlt, by go_num, rfl, hsl, HF.out⟩, by simp [intOf]; omega⟩
    · obtain rfl : k = xs.length := by omega
      have hfin := hH.out
      rw [List.take_length] at hfin
      have HF := Lib.hid hfin
      clear hfin
      go_wp2_with fail
      go_ret
      refine ⟨ret_int ?_, rfl⟩
      rw [Bt.u16_turn t ht, HF.out]; rfl

theorem long_any (A : Option Addr) (B c : Nat) (xs : List Int) (w : World) (hs : Lst w B A (u8s xs)) (hx : St.bts xs) (hl : xs.length ≤ maxLen) :
    Calls Tryd.prog 59 #[.slice A xs.length c] w fun e w' => e = .returned (.int .u32 (SumP.long (nb xs) : Nat)) ∧ w = w' := by
  unfold maxLen at hl
  go_enter Tryd.func59, Tryd.ntmps59
  go_wp2_with fail
  go_loop [3, 8] (fun v i => ∃ k t : Nat, k ≤ xs.length ∧ i = .int .i64 k ∧ v = .int .u32 t ∧ t < 4294967296 ∧ Hid (t = SumP.crc SumP.PL 4294967295 (nb (xs.take k)))) (fun _ i => xs.length - (intOf i).toNat)
  case atStart => exact ⟨0, 4294967295, by omega, rfl, rfl, by omega, rfl⟩
  case round =>
    obtain ⟨k, t, hk, rfl, rfl, ht, hH⟩ := hrel
    by_cases hlt : k < xs.length
    · obtain ⟨b, o, rfl, hb, hc⟩ := hs.bytes hlt
      have hck := hc k hlt
      have hyb : 0 ≤ xs.getD k 0 ∧ xs.getD k 0 ≤ 255 := hx _ (by simp [List.getD, List.getElem?_eq_getElem hlt])
      have HT := Lib.hid (take_snoc xs k hlt)
      clear hc hs hx
      generalize hy : xs.getD k 0 = y at *
      have hxx := Lib.hid (Bt.u32_xor_int t y ht hyb.1 hyb.2)
      have hlt2 : t ^^^ y.toNat < 4294967296 := Nat.xor_lt_two_pow (n := 32) ht (by omega)
      clear hy
      go_wp2_with fail
      rw [hxx.out]
      refine (longStep_any (t ^^^ y.toNat) _ hlt2).mono ?_
      rintro e w1 ⟨rfl, rfl⟩
      have hsl := SumP.steps_lt SumP.PL 32 (by decide) 8 (t ^^^ y.toNat) hlt2
      have hfin : SumP.steps SumP.PL 8 (t ^^^ y.toNat) = SumP.crc SumP.PL 4294967295 (nb (xs.take (k + 1))) := by
        rw [HT.out, nb_snoc, SumP.crc_snoc, ← hH.out]; rfl
      have HF := Lib.hid hfin
      clear hfin
      generalize SumP.steps SumP.PL 8 (t ^^^ y.toNat) = q at *
      go_wp2_with fail
      exact ⟨⟨k + 1, q, hlt, by go_num, rfl, hsl, HF.out⟩, by simp [intOf]; omega⟩
    · obtain rfl : k = xs.length := by omega
      have hfin := hH.out
      rw [List.take_length] at hfin
      have HF := Lib.hid hfin
      clear hfin
      go_wp2_with fail
      go_ret
      refine ⟨ret_int ?_, rfl⟩
      rw [Bt.u32_turn t ht, HF.out]; rfl

end Go.Proofs.YthknkdphofjmhaaDoor.SumW
