/- Texts of my own, laid together: HeadPure, ItemE, Bits, HeadA, HeadW. -/
import Derived.Lib.BitFns
import Derived.Test.YthknkdphofjmhaaDoorZg1
import Derived.Test.YthknkdphofjmhaaDoorItemP
import Derived.Laws.BitsAllLaws
import Derived.Laws.BitsLemmas
import Derived.Test.YthknkdphofjmhaaDoorShelf
import Derived.WalkKit
import Derived.WalkSpells
import Derived.Lib.Hide
import Derived.Outline
import Derived.Deep.QuietTactic
import Derived.BigQuiet
/- The plain mathematics of heads: no program is named here. -/
namespace Go.Proofs.YthknkdphofjmhaaDoor.HeadP

/-- Which Majors may be open. -/
def mayOpen (m : Int) : Bool := (decide (2 ≤ m) && decide (m ≤ 5)) || m == 7
/-- May a head be? -/
def right (m n : Int) (o : Bool) : Bool := if o then n == 0 && mayOpen m else decide (0 ≤ m) && decide (m ≤ 7)
/-- How many bytes follow a first one with these lower bits. -/
def following (low : Int) : Int := if low = 24 then 1 else if low = 25 then 2 else if low = 26 then 4 else if low = 27 then 8 else 0
/-- The lower bits of a number's shortest head. -/
def lowN (n : Int) : Int := if n < 24 then n else if n < 256 then 24 else if n < 65536 then 25 else if n < 4294967296 then 26 else 27
def low (n : Int) (o : Bool) : Int := if o then 31 else lowN n
/-- Big-endian bytes of a number. -/
def be (n : Int) : Nat → List Int
  | 0 => []
  | k + 1 => (n / 2 ^ (8 * k) % 256) :: be n k
/-- A right head's shortest bytes. -/
def bytes (m n : Int) (o : Bool) : List Int := (m * 32 + low n o) :: be n (following (low n o)).toNat
/-- How many. -/
def size (m n : Int) (o : Bool) : Int := if right m n o then 1 + following (low n o) else 0

theorem right_major (m n : Int) (o : Bool) (h : right m n o = true) : 0 ≤ m ∧ m ≤ 7 := by
  unfold right mayOpen at h
  cases o <;> simp at h <;> omega
theorem following_le (l : Int) : 0 ≤ following l ∧ following l ≤ 8 := by
  unfold following; split <;> (try split) <;> (try split) <;> (try split) <;> omega
theorem lowN_le (n : Int) (h : 0 ≤ n) : 0 ≤ lowN n ∧ lowN n ≤ 27 := by
  unfold lowN; split <;> (try split) <;> (try split) <;> (try split) <;> omega
theorem low_le (n : Int) (o : Bool) (h : 0 ≤ n) : 0 ≤ low n o ∧ low n o ≤ 31 := by
  have := lowN_le n h
  unfold low; cases o <;> simp <;> omega
theorem be_length : ∀ (k : Nat) (n : Int), (be n k).length = k
  | 0, _ => rfl
  | k + 1, n => by simp [be, be_length k]
theorem be_bound : ∀ (k : Nat) (n x : Int), x ∈ be n k → 0 ≤ x ∧ x ≤ 255
  | 0, _, _, h => by simp [be] at h
  | k + 1, n, x, h => by
    simp only [be, List.mem_cons] at h
    rcases h with h | h
    · omega
    · exact be_bound k _ _ h

/-- What the length of a number's bits says. -/
theorem bitLen_gt (k x : Nat) (h : 2 ^ k ≤ x) (hx : x < 2 ^ 64) : k < Lib.bitLen x := by
  rw [Lib.bitLen_shift k x h hx]
  have h1 : x / 2 ^ k ≠ 0 := by
    have := Nat.div_pos h (Nat.two_pow_pos k)
    omega
  have h2 : x / 2 ^ k < 2 ^ 64 := Nat.lt_of_le_of_lt (Nat.div_le_self _ _) hx
  rw [Lib.bitLen_half _ h1 h2]
  omega
theorem bitLen_le_iff (k x : Nat) (hk : k ≤ 64) (hx : x < 2 ^ 64) : Lib.bitLen x ≤ k ↔ x < 2 ^ k := by
  constructor
  · intro h
    rcases Nat.lt_or_ge x (2 ^ k) with h1 | h1
    · exact h1
    · have := bitLen_gt k x h1 hx
      omega
  · exact Lib.bitLen_le x k hk
theorem bitLen_lowN (n : Int) (h0 : 0 ≤ n) (h1 : n ≤ 18446744073709551615) :
    ((Lib.bitLen n.toNat : Int) ≤ 8 ↔ n < 256) ∧ ((Lib.bitLen n.toNat : Int) ≤ 16 ↔ n < 65536) ∧ ((Lib.bitLen n.toNat : Int) ≤ 32 ↔ n < 4294967296) := by
  have hx : n.toNat < 2 ^ 64 := by
    have : n.toNat < 18446744073709551616 := by omega
    exact this
  have a := bitLen_le_iff 8 n.toNat (by omega) hx
  have b := bitLen_le_iff 16 n.toNat (by omega) hx
  have c := bitLen_le_iff 32 n.toNat (by omega) hx
  simp only [Nat.reducePow] at a b c
  omega
/-- Bytes joined, the greatest first. -/
def join (l : List Int) : Int := l.foldl (fun n b => n * 256 + b) 0
theorem join_snoc (l : List Int) (b : Int) : join (l ++ [b]) = join l * 256 + b := by simp [join]
theorem join_bound : ∀ (l : List Int), (∀ x ∈ l, 0 ≤ x ∧ x ≤ 255) → ∀ a : Int, 0 ≤ a → 0 ≤ l.foldl (fun n b => n * 256 + b) a ∧ l.foldl (fun n b => n * 256 + b) a < (a + 1) * 256 ^ l.length
  | [], _, a, h => by simp; omega
  | b :: l, hb, a, h => by
    have h1 := hb b (by simp)
    have h2 := join_bound l (fun x hx => hb x (by simp [hx])) (a * 256 + b) (by omega)
    rw [List.foldl_cons]
    refine ⟨h2.1, Int.lt_of_lt_of_le h2.2 ?_⟩
    rw [List.length_cons, Int.pow_succ]
    have h3 : (a * 256 + b + 1) ≤ (a + 1) * 256 := by omega
    have h4 : (0 : Int) ≤ 256 ^ l.length := Int.pow_nonneg (by omega)
    calc (a * 256 + b + 1) * 256 ^ l.length ≤ ((a + 1) * 256) * 256 ^ l.length := Int.mul_le_mul_of_nonneg_right h3 h4
      _ = (a + 1) * (256 ^ l.length * 256) := by rw [Int.mul_assoc, Int.mul_comm 256]
theorem join_lt (l : List Int) (h : ∀ x ∈ l, 0 ≤ x ∧ x ≤ 255) (k : Nat) (hk : l.length ≤ k) : 0 ≤ join l ∧ join l < 256 ^ k := by
  have h1 := join_bound l h 0 (by omega)
  refine ⟨h1.1, Int.lt_of_lt_of_le h1.2 ?_⟩
  rw [Int.zero_add, Int.one_mul]
  have : ((256 ^ l.length : Nat) : Int) ≤ ((256 ^ k : Nat) : Int) := by exact_mod_cast Nat.pow_le_pow_right (by omega) hk
  simpa using this
theorem take_snoc (xs : List Int) (k : Nat) (h : k < xs.length) : xs.take (k + 1) = xs.take k ++ [xs.getD k 0] := by
  rw [List.take_succ_eq_append_getElem h]
  simp [List.getD, List.getElem?_eq_getElem h]

/-- What is open, or none. -/
def opened (m l i : Int) : Int × Int × Bool × Int × Int := if l = 31 ∧ mayOpen m = true then (m, 0, true, i + 1, 0) else (0, 0, false, 0, 3)
/-- What is read at the head of bytes that stand at place i. -/
def readL (l : List Int) (i : Int) : Int × Int × Bool × Int × Int :=
  match l with
  | [] => (0, 0, false, 0, 8)
  | b :: r =>
    if r.length < (following (b % 32)).toNat then (0, 0, false, 0, 8)
    else if 27 < b % 32 then opened (b / 32) (b % 32) i
    else (b / 32, if following (b % 32) = 0 then b % 32 else join (r.take (following (b % 32)).toNat), false, i + 1 + following (b % 32), 0)
/-- What is read at a place: the head's three parts, the place behind it, the error's number. -/
def read (xs : List Int) (i : Int) : Int × Int × Bool × Int × Int := if i < 0 ∨ xs.length < i then (0, 0, false, 0, 1) else readL (xs.drop i.toNat) i
theorem read_out (xs : List Int) (i : Int) (h : i < 0 ∨ xs.length < i) : read xs i = (0, 0, false, 0, 1) := by unfold read; rw [if_pos h]
theorem read_in (xs : List Int) (k : Nat) (h : k ≤ xs.length) : read xs k = readL (xs.drop k) k := by unfold read; rw [if_neg (by omega), Int.toNat_natCast]
theorem read_end (xs : List Int) : read xs xs.length = (0, 0, false, 0, 8) := by rw [read_in _ _ (Nat.le_refl _), List.drop_of_length_le (Nat.le_refl _)]; rfl
theorem drop_at (xs : List Int) (k : Nat) (h : k < xs.length) : xs.drop k = xs.getD k 0 :: xs.drop (k + 1) := by
  rw [List.drop_eq_getElem_cons h]
  simp [List.getD, List.getElem?_eq_getElem h]
theorem read_at (xs : List Int) (k : Nat) (h : k < xs.length) : read xs k = readL (xs.getD k 0 :: xs.drop (k + 1)) k := by rw [read_in _ _ (by omega), drop_at xs k h]

theorem readL_short (y : Int) (r : List Int) (i : Int) (h : r.length < (following (y % 32)).toNat) : readL (y :: r) i = (0, 0, false, 0, 8) := by simp only [readL]; rw [if_pos h]
theorem readL_open (y : Int) (r : List Int) (i : Int) (h : ¬ r.length < (following (y % 32)).toNat) (h2 : 27 < y % 32) : readL (y :: r) i = opened (y / 32) (y % 32) i := by simp only [readL]; rw [if_neg h, if_pos h2]
theorem readL_low (y : Int) (r : List Int) (i : Int) (h2 : ¬ 27 < y % 32) (h3 : following (y % 32) = 0) : readL (y :: r) i = (y / 32, y % 32, false, i + 1, 0) := by
  simp only [readL]; rw [if_neg (by omega), if_neg h2, if_pos h3, h3]; simp
theorem readL_more (y : Int) (r : List Int) (i : Int) (h : ¬ r.length < (following (y % 32)).toNat) (h2 : ¬ 27 < y % 32) (h3 : ¬ following (y % 32) = 0) :
    readL (y :: r) i = (y / 32, join (r.take (following (y % 32)).toNat), false, i + 1 + following (y % 32), 0) := by
  simp only [readL]; rw [if_neg h, if_neg h2, if_neg h3]

/-- What is read fits: a right head, its place behind. -/
theorem following_cases (l : Int) : (l = 24 ∧ following l = 1) ∨ (l = 25 ∧ following l = 2) ∨ (l = 26 ∧ following l = 4) ∨ (l = 27 ∧ following l = 8) ∨ ((l < 24 ∨ 27 < l) ∧ following l = 0) := by
  unfold following; (repeat' split) <;> omega
theorem read_ok (xs : List Int) (i : Int) (hx : ∀ x ∈ xs, 0 ≤ x ∧ x ≤ 255) (m n : Int) (o : Bool) (j : Int) (h : read xs i = (m, n, o, j, 0)) :
    0 ≤ i ∧ i < j ∧ j ≤ xs.length ∧ right m n o = true ∧ 0 ≤ n ∧ n ≤ 18446744073709551615 := by
  by_cases hi : i < 0 ∨ xs.length < i
  · rw [read_out _ _ hi] at h
    simp at h
  obtain ⟨k, rfl⟩ := Int.eq_ofNat_of_zero_le (show 0 ≤ i by omega)
  by_cases hk : k = xs.length
  · rw [hk, read_end] at h
    simp at h
  have hk' : k < xs.length := by omega
  rw [read_at _ _ hk'] at h
  have hy : 0 ≤ xs.getD k 0 ∧ xs.getD k 0 ≤ 255 := hx _ (by simp [List.getD, List.getElem?_eq_getElem hk'])
  generalize xs.getD k 0 = y at *
  have hf := following_cases (y % 32)
  have hd : ∀ x ∈ xs.drop (k + 1), 0 ≤ x ∧ x ≤ 255 := fun x hx' => hx x (List.mem_of_mem_drop hx')
  have hl : (xs.drop (k + 1)).length = xs.length - (k + 1) := List.length_drop
  generalize xs.drop (k + 1) = r at *
  by_cases s0 : r.length < (following (y % 32)).toNat
  · rw [readL_short _ _ _ s0] at h
    simp at h
  by_cases s1 : 27 < y % 32
  · rw [readL_open _ _ _ s0 s1] at h
    unfold opened at h
    split at h
    · rename_i hc
      simp only [Prod.mk.injEq] at h
      obtain ⟨rfl, rfl, rfl, rfl, _⟩ := h
      refine ⟨by omega, by omega, by omega, ?_, by omega, by omega⟩
      simp [right, hc.2]
    · simp at h
  by_cases s2 : following (y % 32) = 0
  · rw [readL_low _ _ _ s1 s2] at h
    simp only [Prod.mk.injEq] at h
    obtain ⟨rfl, rfl, rfl, rfl, _⟩ := h
    refine ⟨by omega, by omega, by omega, ?_, by omega, by omega⟩
    simp [right]
    omega
  · rw [readL_more _ _ _ s0 s1 s2] at h
    simp only [Prod.mk.injEq] at h
    obtain ⟨rfl, rfl, rfl, rfl, _⟩ := h
    have hj := join_lt (r.take (following (y % 32)).toNat) (fun x hx' => hd x (List.mem_of_mem_take hx')) 8 (by simp; omega)
    simp only [show (256 : Int) ^ 8 = 18446744073709551616 from rfl] at hj
    refine ⟨by omega, by omega, by omega, ?_, by omega, by omega⟩
    simp [right]
    omega
/-- Is it written as short as may be? -/
def shortest (xs : List Int) (i : Int) : Bool := (read xs i).2.2.2.2 == 0 && (read xs i).2.2.2.1 - i == size (read xs i).1 (read xs i).2.1 (read xs i).2.2.1

theorem bytes_bound (m n : Int) (o : Bool) (hr : right m n o = true) (h0 : 0 ≤ n) : St.bts (bytes m n o) := by
  have hm := right_major m n o hr
  have hl := low_le n o h0
  intro x hx
  simp only [bytes, List.mem_cons] at hx
  rcases hx with rfl | hx
  · omega
  · exact be_bound _ _ _ hx
theorem be_less : ∀ (k : Nat) (n m : Int), 0 ≤ n → n < m → n / 2 ^ (8 * k) = m / 2 ^ (8 * k) → St.less (be n k) (be m k) = true
  | 0, n, m, _, h, e => by simp at e; omega
  | k + 1, n, m, h0, h, e => by
    have hp : (0 : Int) < 2 ^ (8 * k) := Int.pow_pos (by omega)
    have hle : n / 2 ^ (8 * k) ≤ m / 2 ^ (8 * k) := Int.ediv_le_ediv hp (by omega)
    have e1 : ∀ z : Int, z / 2 ^ (8 * (k + 1)) = z / 2 ^ (8 * k) / 256 := by
      intro z
      rw [show (2 : Int) ^ (8 * (k + 1)) = 2 ^ (8 * k) * 256 from by rw [show 8 * (k + 1) = 8 * k + 8 from rfl, Int.pow_add]; rfl, Int.ediv_ediv_of_nonneg (by omega)]
    rw [e1, e1] at e
    have ih := be_less k n m h0 h
    simp only [be, St.less]
    generalize n / 2 ^ (8 * k) = a at *
    generalize m / 2 ^ (8 * k) = b at *
    by_cases hab : a = b
    · subst hab
      simp [ih rfl]
    · have : a % 256 < b % 256 := by omega
      simp [this]
theorem low_mono (n m : Int) (h0 : 0 ≤ n) (h : n < m) (h1 : m ≤ 18446744073709551615) :
    lowN n < lowN m ∧ following (lowN n) ≤ following (lowN m) ∨
    lowN n = lowN m ∧ n / 2 ^ (8 * (following (lowN n)).toNat) = m / 2 ^ (8 * (following (lowN n)).toNat) := by
  have c := following_cases (lowN n)
  have d := following_cases (lowN m)
  have hn : (lowN n = n ∧ n < 24) ∨ (lowN n = 24 ∧ n < 256 ∧ 24 ≤ n) ∨ (lowN n = 25 ∧ n < 65536 ∧ 256 ≤ n) ∨ (lowN n = 26 ∧ n < 4294967296 ∧ 65536 ≤ n) ∨ (lowN n = 27 ∧ 4294967296 ≤ n) := by
    unfold lowN; (repeat' split) <;> omega
  have hm : (lowN m = m ∧ m < 24) ∨ (lowN m = 24 ∧ m < 256 ∧ 24 ≤ m) ∨ (lowN m = 25 ∧ m < 65536 ∧ 256 ≤ m) ∨ (lowN m = 26 ∧ m < 4294967296 ∧ 65536 ≤ m) ∨ (lowN m = 27 ∧ 4294967296 ≤ m) := by
    unfold lowN; (repeat' split) <;> omega
  by_cases hlt : lowN n < lowN m
  · exact .inl ⟨hlt, by omega⟩
  · refine .inr ⟨by omega, ?_⟩
    have hc : (following (lowN n) = 1 ∧ n < 256 ∧ m < 256) ∨ (following (lowN n) = 2 ∧ n < 65536 ∧ m < 65536) ∨ (following (lowN n) = 4 ∧ n < 4294967296 ∧ m < 4294967296) ∨ following (lowN n) = 8 := by omega
    rcases hc with ⟨e, h2, h3⟩ | ⟨e, h2, h3⟩ | ⟨e, h2, h3⟩ | e
    · rw [e]; show n / 256 = m / 256; omega
    · rw [e]; show n / 65536 = m / 65536; omega
    · rw [e]; show n / 4294967296 = m / 4294967296; omega
    · rw [e]; show n / 18446744073709551616 = m / 18446744073709551616; omega
theorem bytes_less (M n m : Int) (h0 : 0 ≤ n) (h : n < m) (h1 : m ≤ 18446744073709551615) :
    St.less (bytes M n false) (bytes M m false) = true ∧ (bytes M n false).length ≤ (bytes M m false).length := by
  have hl := low_mono n m h0 h h1
  have f1 := following_le (lowN n)
  have f2 := following_le (lowN m)
  simp only [bytes, low, Bool.false_eq_true, if_false, List.length_cons, be_length]
  rcases hl with ⟨a, b⟩ | ⟨a, b⟩
  · refine ⟨?_, by omega⟩
    simp only [St.less]
    have : M * 32 + lowN n < M * 32 + lowN m := by omega
    simp [this]
  · have hb := be_less _ n m h0 h b
    rw [← a]
    refine ⟨?_, by omega⟩
    simp [St.less, hb]

theorem be_add : ∀ (k : Nat) (n c : Int), be (n + c * 2 ^ (8 * k)) k = be n k
  | 0, _, _ => rfl
  | k + 1, n, c => by
    have hp : (0 : Int) < 2 ^ (8 * k) := Int.pow_pos (by omega)
    have e1 : n + c * 2 ^ (8 * (k + 1)) = n + (c * 256) * 2 ^ (8 * k) := by
      rw [show (2 : Int) ^ (8 * (k + 1)) = 256 * 2 ^ (8 * k) from by rw [show 8 * (k + 1) = 8 + 8 * k by omega, Int.pow_add]; rfl, Int.mul_assoc]
    rw [e1]
    simp only [be]
    rw [be_add k n (c * 256), Int.add_mul_ediv_right _ _ (by omega)]
    congr 1
    omega
theorem pow_256 (k : Nat) : (256 : Int) ^ k = 2 ^ (8 * k) := by rw [Int.pow_mul]; rfl
theorem join_cons (b : Int) (l : List Int) (a : Int) : (b :: l).foldl (fun n b => n * 256 + b) a = l.foldl (fun n b => n * 256 + b) (a * 256 + b) := rfl
theorem join_acc : ∀ (l : List Int) (a : Int), l.foldl (fun n b => n * 256 + b) a = a * 256 ^ l.length + join l
  | [], a => by simp [join]
  | b :: l, a => by
    rw [join_cons, join_acc l, show join (b :: l) = l.foldl (fun n b => n * 256 + b) b from by simp [join], join_acc l b, List.length_cons, Int.pow_succ, Int.add_mul, Int.mul_assoc, Int.mul_comm 256, Int.add_assoc]
theorem be_join : ∀ (l : List Int), St.bts l → be (join l) l.length = l
  | [], _ => rfl
  | b :: l, h => by
    have hb := h b (by simp)
    have hl : St.bts l := fun x hx => h x (by simp [hx])
    have hj := join_lt l hl l.length (Nat.le_refl _)
    have e : join (b :: l) = join l + b * 2 ^ (8 * l.length) := by
      rw [show join (b :: l) = l.foldl (fun n b => n * 256 + b) b from by simp [join], join_acc l b, pow_256]; omega
    have hp : (0 : Int) < 2 ^ (8 * l.length) := Int.pow_pos (by omega)
    rw [pow_256] at hj
    rw [e, List.length_cons]
    simp only [be]
    rw [be_add, be_join l hl, Int.add_mul_ediv_right _ _ (by omega), Int.ediv_eq_zero_of_lt hj.1 hj.2]
    congr 1
    omega
theorem join_be : ∀ (k : Nat) (n : Int), 0 ≤ n → join (be n k) = n % 2 ^ (8 * k)
  | 0, n, _ => by simp [be, join]
  | k + 1, n, h => by
    have hp : (0 : Int) < 2 ^ (8 * k) := Int.pow_pos (by omega)
    simp only [be]
    rw [show ∀ b l, join (b :: l) = l.foldl (fun n b => n * 256 + b) b from fun b l => by simp [join], join_acc, be_length, join_be k n h, pow_256]
    rw [show (2 : Int) ^ (8 * (k + 1)) = 2 ^ (8 * k) * 256 from by rw [show 8 * (k + 1) = 8 * k + 8 from rfl, Int.pow_add]; rfl]
    generalize hP : (2 : Int) ^ (8 * k) = p at *
    have hq := Int.emod_add_mul_ediv n p
    have r0 := Int.emod_nonneg n (show p ≠ 0 by omega)
    have r1 := Int.emod_lt_of_pos n hp
    generalize n / p = q at *
    generalize n % p = r at *
    have d0 := Int.emod_nonneg q (show (256 : Int) ≠ 0 by omega)
    have d1 := Int.emod_lt_of_pos q (show (0 : Int) < 256 by omega)
    have hd := Int.emod_add_mul_ediv q 256
    generalize q / 256 = s at *
    generalize q % 256 = d at *
    subst hd
    subst hq
    have e2 : r + p * (d + 256 * s) = (d * p + r) + p * 256 * s := by
      rw [Int.mul_add, Int.mul_comm p d, Int.mul_assoc]; omega
    have b1 : 0 ≤ d * p + r := Int.add_nonneg (Int.mul_nonneg d0 (by omega)) r0
    have b2 : d * p + r < p * 256 := by
      have : d * p ≤ 255 * p := Int.mul_le_mul_of_nonneg_right (by omega) (by omega)
      omega
    rw [e2, Int.add_mul_emod_self_left, Int.emod_eq_of_lt b1 b2]
/-- The first byte and what has been written behind it, so many rounds in. -/
def part (f n : Int) (more i : Nat) : List Int := f :: (List.replicate (more - i) 0 ++ be n i)
theorem part_length (f n : Int) (more i : Nat) (h : i ≤ more) : (part f n more i).length = 1 + more := by simp [part, be_length]; omega
theorem part_set (f n : Int) (more i : Nat) (h : i < more) : (part f n more i).set (more - i) (n / 2 ^ (8 * i) % 256) = part f n more (i + 1) := by
  unfold part
  obtain ⟨d, rfl⟩ : ∃ d, more = i + 1 + d := ⟨more - (i + 1), by omega⟩
  have e1 : i + 1 + d - i = d + 1 := by omega
  have e2 : i + 1 + d - (i + 1) = d := by omega
  rw [e1, e2, List.set_cons_succ]
  congr 1
  rw [List.replicate_succ', List.append_assoc, List.set_append_right _ _ (by simp)]
  simp [be]
theorem bytes_part (m n : Int) (o : Bool) : bytes m n o = part (m * 32 + low n o) n (following (low n o)).toNat (following (low n o)).toNat := by simp [bytes, part]
end Go.Proofs.YthknkdphofjmhaaDoor.HeadP
/- An item's shortest bytes: plain. No program is named here. -/
namespace Go.Proofs.YthknkdphofjmhaaDoor.Cb

/-- The number in an item's head. -/
def cn (x : Itm) : Int := if x.kind = 2 ∨ x.kind = 3 then x.bs.length else if x.kind = 4 then x.sub.length else x.num
mutual
/-- An item's bytes. -/
def enc : Itm → List Int
  | .mk k n b l => HeadP.bytes k (cn (.mk k n b l)) false ++ b ++ encs l
def encs : List Itm → List Int
  | [] => []
  | x :: l => enc x ++ encs l
end
theorem enc_sub (x : Itm) : enc x = HeadP.bytes x.kind (cn x) false ++ x.bs ++ encs x.sub := by cases x; rfl
theorem encs_append : ∀ (l m : List Itm), encs (l ++ m) = encs l ++ encs m
  | [], m => by simp [encs]
  | x :: l, m => by simp [encs, encs_append l m]
theorem encs_snoc (l : List Itm) (k : Nat) (h : k < l.length) : encs (l.take (k + 1)) = encs (l.take k) ++ enc l[k] := by
  rw [take_snoc l k h, encs_append]; simp [encs]
theorem encs_take_le (l : List Itm) (k : Nat) : (encs (l.take k)).length ≤ (encs l).length := by
  have h := encs_append (l.take k) (l.drop k)
  rw [List.take_append_drop] at h
  rw [h]; simp
theorem fit_kind (x : Itm) (h : kindFit x = true) : x.kind = 0 ∨ x.kind = 2 ∨ x.kind = 3 ∨ x.kind = 4 := by
  unfold kindFit at h
  split at h
  · simp [*]
  · split at h
    · simp [*]
    · split at h
      · simp [*]
      · split at h
        · simp [*]
        · simp at h
theorem fine_kind (x : Itm) (h : fine x = true) : x.kind = 0 ∨ x.kind = 2 ∨ x.kind = 3 ∨ x.kind = 4 := by
  rw [fine_sub] at h
  exact fit_kind x (Bool.and_eq_true_iff.1 h).1
theorem fines_at : ∀ (l : List Itm) (k : Nat) (h : k < l.length), fines l = true → fine l[k] = true
  | x :: l, 0, _, e => by simp [fines] at e; simpa using e.1
  | x :: l, k + 1, h, e => by simp [fines] at e; simpa using fines_at l k (by simpa using h) e.2
end Go.Proofs.YthknkdphofjmhaaDoor.Cb
/- Bits of whole numbers that are not below 0. No program is named here. -/
namespace Go.Proofs.YthknkdphofjmhaaDoor.Bt

theorem i64_nat (a : Nat) (ha : a < 9223372036854775808) : (BitVec.ofInt 64 (a : Int)).toNat = a := by
  rw [BitVec.ofInt_natCast, BitVec.toNat_ofNat]
  exact Nat.mod_eq_of_lt (by omega)
theorem i64_or (a b : Nat) (ha : a < 9223372036854775808) (hb : b < 9223372036854775808) : bits .or .i64 (a : Int) (b : Int) = ((a ||| b : Nat) : Int) := by
  have hx : a ||| b < 2 ^ 63 := Nat.or_lt_two_pow (by omega) (by omega)
  show IntKind.i64.wrap ((BitVec.ofInt 64 (a : Int) ||| BitVec.ofInt 64 (b : Int)).toNat : Int) = _
  rw [BitVec.toNat_or, i64_nat a ha, i64_nat b hb, IntKind.wrap_i64]
  omega
theorem i64_and (a b : Nat) (ha : a < 9223372036854775808) (hb : b < 9223372036854775808) : bits .and .i64 (a : Int) (b : Int) = ((a &&& b : Nat) : Int) := by
  have hx : a &&& b < 2 ^ 63 := Nat.and_lt_two_pow _ (by omega)
  show IntKind.i64.wrap ((BitVec.ofInt 64 (a : Int) &&& BitVec.ofInt 64 (b : Int)).toNat : Int) = _
  rw [BitVec.toNat_and, i64_nat a ha, i64_nat b hb, IntKind.wrap_i64]
  omega
/-- Three bits ahead of five. -/
theorem or_head (m l : Int) (h0 : 0 ≤ m) (h1 : m ≤ 7) (h2 : 0 ≤ l) (h3 : l ≤ 31) : bits .or .i64 (m * 32) l = m * 32 + l := by
  obtain ⟨a, rfl⟩ := Int.eq_ofNat_of_zero_le h0
  obtain ⟨b, rfl⟩ := Int.eq_ofNat_of_zero_le h2
  rw [show ((a : Int) * 32) = ((a * 32 : Nat) : Int) by omega, i64_or _ _ (by omega) (by omega), nat_join 5 (a * 32) b (by omega) (by omega)]
  omega
/-- A byte behind others. -/
theorem or_byte (n b : Int) (h0 : 0 ≤ n) (h1 : n < 72057594037927936) (h2 : 0 ≤ b) (h3 : b ≤ 255) : bits .or .u64 (n * 256) b = n * 256 + b := by
  obtain ⟨a, rfl⟩ := Int.eq_ofNat_of_zero_le h0
  obtain ⟨c, rfl⟩ := Int.eq_ofNat_of_zero_le h2
  rw [show ((a : Int) * 256) = ((a * 256 : Nat) : Int) by omega, u64_or_nat _ _ (by omega) (by omega), nat_join 8 (a * 256) c (by omega) (by omega)]
  omega
/-- The five lower bits of a byte. -/
theorem and31 (b : Int) (h0 : 0 ≤ b) (h1 : b ≤ 255) : bits .and .u8 b 31 = b % 32 := by
  obtain ⟨a, rfl⟩ := Int.eq_ofNat_of_zero_le h0
  rw [show (31 : Int) = ((31 : Nat) : Int) from rfl, u8_and_nat _ _ (by omega) (by omega), nat_mask5]
  omega
theorem u16_bit (t : Nat) (h : t < 65536) : bits .and .u16 (t : Int) 1 = ((t % 2 : Nat) : Int) := by
  have := u16_and_nat t 1 h (by omega)
  rw [nat_mask1] at this
  exact this
theorem u32_bit (t : Nat) (h : t < 4294967296) : bits .and .u32 (t : Int) 1 = ((t % 2 : Nat) : Int) := by
  have := u32_and_nat t 1 h (by omega)
  rw [nat_mask1] at this
  exact this
theorem u16_xor_half (t p : Nat) (h : t < 65536) (hp : p < 65536) : bits .xor .u16 ((t : Int) / 2) (p : Int) = ((t / 2 ^^^ p : Nat) : Int) := u16_xor_nat (t / 2) p (by omega) hp
theorem u32_xor_half (t p : Nat) (h : t < 4294967296) (hp : p < 4294967296) : bits .xor .u32 ((t : Int) / 2) (p : Int) = ((t / 2 ^^^ p : Nat) : Int) := u32_xor_nat (t / 2) p (by omega) hp
theorem u64_xor_half (t p : Nat) (h : t < 18446744073709551616) (hp : p < 18446744073709551616) : bits .xor .u64 ((t : Int) / 2) (p : Int) = ((t / 2 ^^^ p : Nat) : Int) := u64_xor_nat (t / 2) p (by omega) hp
theorem u16_xor_int (a : Nat) (y : Int) (h : a < 65536) (h0 : 0 ≤ y) (h1 : y ≤ 255) : bits .xor .u16 (a : Int) y = ((a ^^^ y.toNat : Nat) : Int) := by
  obtain ⟨b, rfl⟩ := Int.eq_ofNat_of_zero_le h0
  rw [Int.toNat_natCast]
  exact u16_xor_nat a b h (by omega)
theorem u32_xor_int (a : Nat) (y : Int) (h : a < 4294967296) (h0 : 0 ≤ y) (h1 : y ≤ 255) : bits .xor .u32 (a : Int) y = ((a ^^^ y.toNat : Nat) : Int) := by
  obtain ⟨b, rfl⟩ := Int.eq_ofNat_of_zero_le h0
  rw [Int.toNat_natCast]
  exact u32_xor_nat a b h (by omega)
theorem u64_xor_int (a : Nat) (y : Int) (h : a < 18446744073709551616) (h0 : 0 ≤ y) (h1 : y ≤ 255) : bits .xor .u64 (a : Int) y = ((a ^^^ y.toNat : Nat) : Int) := by
  obtain ⟨b, rfl⟩ := Int.eq_ofNat_of_zero_le h0
  rw [Int.toNat_natCast]
  exact u64_xor_nat a b h (by omega)
/-- All bits turned. -/
theorem turn (n t : Nat) (h : t < 2 ^ n) : (2 ^ n - 1) ^^^ t = 2 ^ n - 1 - t := by
  apply Nat.eq_of_testBit_eq
  intro i
  rw [show 2 ^ n - 1 - t = 2 ^ n - (t + 1) by omega, Nat.testBit_two_pow_sub_succ h, Nat.testBit_xor, Nat.testBit_two_pow_sub_one]
  by_cases hi : i < n
  · simp [hi]
  · simp [hi, Nat.testBit_lt_two_pow (Nat.lt_of_lt_of_le h (Nat.pow_le_pow_right (n := 2) (by omega) (show n ≤ i by omega)))]
theorem u16_turn (t : Nat) (h : t < 65536) : bits .xor .u16 IntKind.u16.max (t : Int) = ((65535 - t : Nat) : Int) := by
  have := u16_xor_nat 65535 t (by omega) h
  rw [turn 16 t h] at this
  exact this
theorem u32_turn (t : Nat) (h : t < 4294967296) : bits .xor .u32 IntKind.u32.max (t : Int) = ((4294967295 - t : Nat) : Int) := by
  have := u32_xor_nat 4294967295 t (by omega) h
  rw [turn 32 t h] at this
  exact this
end Go.Proofs.YthknkdphofjmhaaDoor.Bt
/- Contracts of the plain functions of package head (no memory). -/
namespace Go.Proofs.YthknkdphofjmhaaDoor.HeadA
open Go.RowKit Wd


theorem mayOpen_any (m : Int) (w : World) : Calls Tryd.prog 105 #[.int .i64 m] w fun e w' => e = .returned (.bool (HeadP.mayOpen m)) ∧ w = w' := by
  go_enter Tryd.func105, Tryd.ntmps105
  go_wp2
  all_goals go_ret
  all_goals exact ⟨ret_bool (by simp [HeadP.mayOpen, *] <;> omega), rfl⟩

theorem following_any (l : Int) (w : World) (h0 : 0 ≤ l) (h1 : l ≤ 31) : Calls Tryd.prog 95 #[.int .i64 l] w fun e w' => e = .returned (.int .i64 (HeadP.following l)) ∧ w = w' := by
  by_cases a : l < 24
  · go_enter Tryd.func95, Tryd.ntmps95
    go_wp2
    go_ret
    exact ⟨ret_int (by unfold HeadP.following; rw [if_neg (by omega), if_neg (by omega), if_neg (by omega), if_neg (by omega)]), rfl⟩
  by_cases b : 27 < l
  · go_enter Tryd.func95, Tryd.ntmps95
    go_wp2
    go_ret
    exact ⟨ret_int (by unfold HeadP.following; rw [if_neg (by omega), if_neg (by omega), if_neg (by omega), if_neg (by omega)]), rfl⟩
  have : l = 24 ∨ l = 25 ∨ l = 26 ∨ l = 27 := by omega
  clear a b h0 h1
  rcases this with rfl | rfl | rfl | rfl
  all_goals
    go_enter Tryd.func95, Tryd.ntmps95
    go_wp2
    go_ret
    exact ⟨rfl, rfl⟩

/-- 'lowBits': below 24. -/
theorem lowBits_any (m n : Int) (o : Bool) (w : World) (h0 : 0 ≤ n) (h1 : n ≤ 18446744073709551615) :
    Calls Tryd.prog 94 #[.agg #[.int .i64 m, .int .u64 n, .bool o]] w fun e w' => e = .returned (.int .i64 (HeadP.low n o)) ∧ Below w.heap.size w w' := by
  cases o
  · by_cases a : n < 24
    · go_enter Tryd.func94, Tryd.ntmps94
      go_wp2_with fail
      go_ret
      exact ⟨ret_int (by simp [HeadP.low, HeadP.lowN, a]), (Below.refl _ _).alloc (Nat.le_refl _) _⟩
    · have hb := Lib.hid (HeadP.bitLen_lowN n h0 h1)
      go_enter Tryd.func94, Tryd.ntmps94
      go_wp2_with fail
      refine (Tryd.bits_Len64 n _ h0 h1).mono ?_
      rintro e w' ⟨rfl, rfl⟩
      have hb := hb.out
      generalize (Lib.bitLen n.toNat : Int) = L at *
      go_wp2_with fail
      all_goals go_ret
      all_goals exact ⟨ret_int (by simp only [HeadP.low, HeadP.lowN, Bool.false_eq_true, if_false]; rw [if_neg (by omega)]; (repeat' split) <;> omega), (Below.refl _ _).alloc (Nat.le_refl _) _⟩
  · go_enter Tryd.func94, Tryd.ntmps94
    go_wp2_with fail
    go_ret
    exact ⟨rfl, (Below.refl _ _).alloc (Nat.le_refl _) _⟩

theorem right_any (m n : Int) (o : Bool) (w : World) :
    Calls Tryd.prog 93 #[.agg #[.int .i64 m, .int .u64 n, .bool o]] w fun e w' => e = .returned (.bool (HeadP.right m n o)) ∧ Below w.heap.size w w' := by
  cases o
  · go_enter Tryd.func93, Tryd.ntmps93
    go_wp2_with fail
    all_goals go_ret
    all_goals exact ⟨ret_bool (by simp [HeadP.right] <;> omega), (Below.refl _ _).alloc (Nat.le_refl _) _⟩
  · go_enter Tryd.func93, Tryd.ntmps93
    go_wp2_with (go_at_call 105; refine (mayOpen_any _ _).mono ?_; rintro e w' ⟨rfl, rfl⟩)
    all_goals go_ret
    all_goals exact ⟨ret_bool (by simp [HeadP.right, *]), (Below.refl _ _).alloc (Nat.le_refl _) _⟩


end Go.Proofs.YthknkdphofjmhaaDoor.HeadA
/- The contract of head.Write. -/
namespace Go.Proofs.YthknkdphofjmhaaDoor.HeadW
open Go.RowKit Wd

theorem info_u8 : (Tryd.prog.info? 5).map (fun i => (i.zero, i.size, i.bytes)) = some (some (.int .u8 0), 1, 1) := by kernel_rfl

theorem write_no (m n : Int) (o : Bool) (w : World) (hr : HeadP.right m n o = false) :
    Calls Tryd.prog 81 #[.agg #[.int .i64 m, .int .u64 n, .bool o]] w fun e w' => e = .returned (.tuple #[.slice none 0 0, .int .i64 3]) ∧ Below w.heap.size w w' := by
  go_enter Tryd.func81, Tryd.ntmps81
  go_wp2_with fail
  refine (HeadA.right_any m n o _).mono ?_
  rintro e w1 ⟨rfl, hb1⟩
  obtain ⟨c0, c1, c2, hs, hb⟩ := box3 hb1
  clear hb1
  have hB := Lib.hid hb
  clear hb
  go_wp2_with fail
  go_ret2
  exact ⟨rfl, hB.out⟩

set_option maxHeartbeats 400000 in
theorem write_yes (m n : Int) (o : Bool) (w : World) (hr : HeadP.right m n o = true) (h0 : 0 ≤ n) (h1 : n ≤ 18446744073709551615) :
    Calls Tryd.prog 81 #[.agg #[.int .i64 m, .int .u64 n, .bool o]] w fun e w' =>
      ∃ v, e = .returned (.tuple #[v, .int .i64 0]) ∧ w'.ownsRow w.heap.size 5 1 v (HeadP.bytes m n o).length (u8s (HeadP.bytes m n o)) ∧ Below w.heap.size w w' := by
  have hl := HeadP.low_le n o h0
  have hf := HeadP.following_le (HeadP.low n o)
  have hm := HeadP.right_major m n o hr
  go_enter Tryd.func81, Tryd.ntmps81
  go_wp2_with fail
  refine (HeadA.right_any m n o _).mono ?_
  rintro e w1 ⟨rfl, hb1⟩
  obtain ⟨c0, c1, c2, hs, hb⟩ := box3 hb1
  clear hb1
  go_wp2_with fail
  refine (HeadA.lowBits_any m n o _ h0 h1).mono ?_
  rintro e w2 ⟨rfl, hb2⟩
  have d0 := cell_next c0 hb2 hs
  have d1 := cell_next c1 hb2 hs
  have hB2 := Lib.hid (below_next hb (by omega) hb2)
  have hs2 : w.heap.size < w2.heap.size := by have := hb2.size; omega
  clear hb hb2 c0 c1 c2
  go_wp2_with fail
  refine (HeadA.following_any _ _ hl.1 hl.2).mono ?_
  rintro e w3 ⟨rfl, rfl⟩
  generalize hF : HeadP.following (HeadP.low n o) = F at *
  obtain ⟨more, rfl⟩ := Int.eq_ofNat_of_zero_le hf.1
  have HF := Lib.hid hF
  clear hF
  obtain ⟨i0, hi, hz0, hz1, hz2⟩ := info_parts info_u8
  go_wp2_with (at_make; refine wpList_make_full _ rfl _ _ 23 rfl w.heap.size 5 i0 (.int .u8 0) 1 Tryd.underlying23 hi hz0 hz1 .i64 .i64 _ _ (1 + more) rfl rfl (by omega) (by omega) ?c1 ?c2 ?c3 ?_)
  case c1 => rw [hz2]; omega
  case c2 => unfold maxLen; omega
  case c3 => omega
  intro w4 hown hgrow
  have e0 := hgrow.cell d0 (by simp)
  have e1 := hgrow.cell d1 (by simp)
  have f0 := hown.cellAt 0 (by omega)
  have f1 := hown.frozenAt 0
  rw [toList_madeCells_one, show List.replicate (1 + more) (Value.int .u8 0) = u8s (HeadP.part 0 n more 0) from by simp [HeadP.part, HeadP.be, List.replicate_succ, Nat.add_comm 1 more]] at hown f0
  have HO := Lib.hid hown
  have HG := Lib.hid hgrow
  simp only [HeadP.part, u8s, List.map_cons, List.getElem?_cons_zero] at f0
  clear hown hgrow d0 d1
  go_wp2_with fail
  rw [Bt.or_head m _ hm.1 hm.2 hl.1 hl.2, show (m * 32 + HeadP.low n o) % 256 = m * 32 + HeadP.low n o from Int.emod_eq_of_lt (by omega) (by omega)]
  have hst := HO.out.stored 0 (.int .u8 (m * 32 + HeadP.low n o))
  rw [show (u8s (HeadP.part 0 n more 0)).set 0 (.int .u8 (m * 32 + HeadP.low n o)) = u8s (HeadP.part (m * 32 + HeadP.low n o) n more 0) from by simp [HeadP.part]] at hst
  have g1 : (w4.setCell ⟨w2.heap.size, 0, none⟩ (.int .u8 (m * 32 + HeadP.low n o))).cell? ⟨w.heap.size, 1, none⟩ = some (.int .u64 n) :=
    (World.cell?_setCell_other _ _ _ _ (fun e => by injection e with e1; omega)).trans e1
  have hB5 : Below w.heap.size w (w4.setCell ⟨w2.heap.size, 0, none⟩ (.int .u8 (m * 32 + HeadP.low n o))) :=
    (hB2.out.grown HG.out (by omega) (by simp)).setCell (p := ⟨w2.heap.size, 0, none⟩) (by simp; omega) _
  generalize (w4.setCell ⟨w2.heap.size, 0, none⟩ (.int .u8 (m * 32 + HeadP.low n o))) = w5 at *
  have hBw := hs2
  generalize w2.heap.size = B at *
  clear e0 e1 f1 f0 HO HG hB2
  have hsz : w.heap.size < w5.heap.size := by have := (hst.1.lt B rfl).2; omega
  obtain ⟨hown, _⟩ := hst
  generalize hf0 : m * 32 + HeadP.low n o = f at *
  have hF0 := Lib.hid hf0
  clear hf0 hs2 hs
  go_loopw [27] (fun i wr => ∃ k : Nat, k ≤ more ∧ i = .int .i64 k ∧ Hid (wr.ownsRow w.heap.size 5 1 (.slice (some ⟨B, 0, none⟩) (1 + more) (1 + more)) (1 + more) (u8s (HeadP.part f n more k))) ∧
      wr.cell? ⟨w.heap.size, 1, none⟩ = some (.int .u64 n) ∧ Below w.heap.size w wr) (fun i _ => more - (intOf i).toNat)
  case atStart => exact ⟨0, Nat.zero_le _, rfl, hown, g1, hB5⟩
  case round =>
    obtain ⟨k, hk, rfl, ho, hc1, hbl⟩ := hrel
    clear hown g1 hB5 hsz
    have hB := Lib.hid hbl
    clear hbl
    by_cases hlt : k < more
    · have q0 : wr.cell? ⟨B, more - k, none⟩ = some (.int .u8 ((HeadP.part f n more k).getD (more - k) 0)) := by
        rw [ho.out.cellAt (more - k) (by omega)]
        have hll := HeadP.part_length f n more k hk
        simp [List.getElem?_eq_getElem (show more - k < (HeadP.part f n more k).length by omega)]
      have q1 := ho.out.frozenAt (more - k)
      go_wp2_with fail
      refine ⟨⟨k + 1, hlt, by go_num, ?_, ?_, ?_⟩, by simp [intOf]; omega⟩
      · have hs := (ho.out.stored (more - k) (.int .u8 (n / 2 ^ (8 * k) % 256))).1
        rw [show (u8s (HeadP.part f n more k)).set (more - k) (.int .u8 (n / 2 ^ (8 * k) % 256)) = u8s (HeadP.part f n more (k + 1)) from by rw [← HeadP.part_set f n more k hlt]; simp [u8s, List.map_set]] at hs
        exact hs
      · exact (World.cell?_setCell_other _ _ _ _ (fun e => by injection e with e1; omega)).trans hc1
      · exact hB.out.setCell (p := ⟨B, more - k, none⟩) (by simp; omega) _
    · obtain rfl : k = more := by omega
      go_wp2_with fail
      go_ret2
      refine ⟨_, rfl, ?_, hB.out⟩
      rw [HeadP.bytes_part, hF0.out, HF.out]
      have hll := HeadP.part_length f n k k (Nat.le_refl _)
      simp only [Int.toNat_natCast, hll]
      exact ho.out

end Go.Proofs.YthknkdphofjmhaaDoor.HeadW
