/- The plain mathematics of heads: no program is named here. -/
import Derived.Lib.BitFns
import Derived.Test.YtoieadbifhealaaDoorStr
namespace Go.Proofs.YtoieadbifhealaaDoor.HeadP

/-- Which Majors may be open. -/
def mayOpen (m : Int) : Bool := (decide (2 ≤ m) && decide (m ≤ 5)) || m == 7
/-- May a head be? -/
def right (m n : Int) (o : Bool) : Bool := if o then n == 0 && mayOpen m else decide (0 ≤ m) && decide (m ≤ 7)
/-- How many bytes follow a first one with these lower bits. -/
def following (low : Int) : Int := if low = 24 then 1 else if low = 25 then 2 else if low = 26 then 4 else if low = 27 then 8 else 0
/-- The lower bits of a number's shortest head. -/
def lowN (n : Int) : Int := if n < 24 then n else if n < 256 then 24 else if n < 65536 then 25 else if n < 4294967296 then 26 else 27
def low (n : Int) (o : Bool) : Int := if o then 31 else lowN n
/-- Big-endian bytes of a number. -/
def be (n : Int) : Nat → List Int
  | 0 => []
  | k + 1 => (n / 2 ^ (8 * k) % 256) :: be n k
/-- A right head's shortest bytes. -/
def bytes (m n : Int) (o : Bool) : List Int := (m * 32 + low n o) :: be n (following (low n o)).toNat
/-- How many. -/
def size (m n : Int) (o : Bool) : Int := if right m n o then 1 + following (low n o) else 0

theorem right_major (m n : Int) (o : Bool) (h : right m n o = true) : 0 ≤ m ∧ m ≤ 7 := by
  unfold right mayOpen at h
  cases o <;> simp at h <;> omega
theorem following_le (l : Int) : 0 ≤ following l ∧ following l ≤ 8 := by
  unfold following; split <;> (try split) <;> (try split) <;> (try split) <;> omega
theorem lowN_le (n : Int) (h : 0 ≤ n) : 0 ≤ lowN n ∧ lowN n ≤ 27 := by
  unfold lowN; split <;> (try split) <;> (try split) <;> (try split) <;> omega
theorem low_le (n : Int) (o : Bool) (h : 0 ≤ n) : 0 ≤ low n o ∧ low n o ≤ 31 := by
  have := lowN_le n h
  unfold low; cases o <;> simp <;> omega
theorem be_length : ∀ (k : Nat) (n : Int), (be n k).length = k
  | 0, _ => rfl
  | k + 1, n => by simp [be, be_length k]
theorem be_bound : ∀ (k : Nat) (n x : Int), x ∈ be n k → 0 ≤ x ∧ x ≤ 255
  | 0, _, _, h => by simp [be] at h
  | k + 1, n, x, h => by
    simp only [be, List.mem_cons] at h
    rcases h with h | h
    · omega
    · exact be_bound k _ _ h

/-- What the length of a number's bits says. -/
theorem bitLen_gt (k x : Nat) (h : 2 ^ k ≤ x) (hx : x < 2 ^ 64) : k < Lib.bitLen x := by
  rw [Lib.bitLen_shift k x h hx]
  have h1 : x / 2 ^ k ≠ 0 := by
    have := Nat.div_pos h (Nat.two_pow_pos k)
    omega
  have h2 : x / 2 ^ k < 2 ^ 64 := Nat.lt_of_le_of_lt (Nat.div_le_self _ _) hx
  rw [Lib.bitLen_half _ h1 h2]
  omega
theorem bitLen_le_iff (k x : Nat) (hk : k ≤ 64) (hx : x < 2 ^ 64) : Lib.bitLen x ≤ k ↔ x < 2 ^ k := by
  constructor
  · intro h
    rcases Nat.lt_or_ge x (2 ^ k) with h1 | h1
    · exact h1
    · have := bitLen_gt k x h1 hx
      omega
  · exact Lib.bitLen_le x k hk
theorem bitLen_lowN (n : Int) (h0 : 0 ≤ n) (h1 : n ≤ 18446744073709551615) :
    ((Lib.bitLen n.toNat : Int) ≤ 8 ↔ n < 256) ∧ ((Lib.bitLen n.toNat : Int) ≤ 16 ↔ n < 65536) ∧ ((Lib.bitLen n.toNat : Int) ≤ 32 ↔ n < 4294967296) := by
  have hx : n.toNat < 2 ^ 64 := by
    have : n.toNat < 18446744073709551616 := by omega
    exact this
  have a := bitLen_le_iff 8 n.toNat (by omega) hx
  have b := bitLen_le_iff 16 n.toNat (by omega) hx
  have c := bitLen_le_iff 32 n.toNat (by omega) hx
  simp only [Nat.reducePow] at a b c
  omega
/-- Bytes joined, the greatest first. -/
def join (l : List Int) : Int := l.foldl (fun n b => n * 256 + b) 0
theorem join_snoc (l : List Int) (b : Int) : join (l ++ [b]) = join l * 256 + b := by simp [join]
theorem join_bound : ∀ (l : List Int), (∀ x ∈ l, 0 ≤ x ∧ x ≤ 255) → ∀ a : Int, 0 ≤ a → 0 ≤ l.foldl (fun n b => n * 256 + b) a ∧ l.foldl (fun n b => n * 256 + b) a < (a + 1) * 256 ^ l.length
  | [], _, a, h => by simp; omega
  | b :: l, hb, a, h => by
    have h1 := hb b (by simp)
    have h2 := join_bound l (fun x hx => hb x (by simp [hx])) (a * 256 + b) (by omega)
    rw [List.foldl_cons]
    refine ⟨h2.1, Int.lt_of_lt_of_le h2.2 ?_⟩
    rw [List.length_cons, Int.pow_succ]
    have h3 : (a * 256 + b + 1) ≤ (a + 1) * 256 := by omega
    have h4 : (0 : Int) ≤ 256 ^ l.length := Int.pow_nonneg (by omega)
    calc (a * 256 + b + 1) * 256 ^ l.length ≤ ((a + 1) * 256) * 256 ^ l.length := Int.mul_le_mul_of_nonneg_right h3 h4
      _ = (a + 1) * (256 ^ l.length * 256) := by rw [Int.mul_assoc, Int.mul_comm 256]
theorem join_lt (l : List Int) (h : ∀ x ∈ l, 0 ≤ x ∧ x ≤ 255) (k : Nat) (hk : l.length ≤ k) : 0 ≤ join l ∧ join l < 256 ^ k := by
  have h1 := join_bound l h 0 (by omega)
  refine ⟨h1.1, Int.lt_of_lt_of_le h1.2 ?_⟩
  rw [Int.zero_add, Int.one_mul]
  have : ((256 ^ l.length : Nat) : Int) ≤ ((256 ^ k : Nat) : Int) := by exact_mod_cast Nat.pow_le_pow_right (by omega) hk
  simpa using this
theorem take_snoc (xs : List Int) (k : Nat) (h : k < xs.length) : xs.take (k + 1) = xs.take k ++ [xs.getD k 0] := by
  rw [List.take_succ_eq_append_getElem h]
  simp [List.getD, List.getElem?_eq_getElem h]

/-- What is open, or none. -/
def opened (m l i : Int) : Int × Int × Bool × Int × Int := if l = 31 ∧ mayOpen m = true then (m, 0, true, i + 1, 0) else (0, 0, false, 0, 3)
/-- What is read at the head of bytes that stand at place i. -/
def readL (l : List Int) (i : Int) : Int × Int × Bool × Int × Int :=
  match l with
  | [] => (0, 0, false, 0, 8)
  | b :: r =>
    if r.length < (following (b % 32)).toNat then (0, 0, false, 0, 8)
    else if 27 < b % 32 then opened (b / 32) (b % 32) i
    else (b / 32, if following (b % 32) = 0 then b % 32 else join (r.take (following (b % 32)).toNat), false, i + 1 + following (b % 32), 0)
/-- What is read at a place: the head's three parts, the place behind it, the error's number. -/
def read (xs : List Int) (i : Int) : Int × Int × Bool × Int × Int := if i < 0 ∨ xs.length < i then (0, 0, false, 0, 1) else readL (xs.drop i.toNat) i
theorem read_out (xs : List Int) (i : Int) (h : i < 0 ∨ xs.length < i) : read xs i = (0, 0, false, 0, 1) := by unfold read; rw [if_pos h]
theorem read_in (xs : List Int) (k : Nat) (h : k ≤ xs.length) : read xs k = readL (xs.drop k) k := by unfold read; rw [if_neg (by omega), Int.toNat_natCast]
theorem read_end (xs : List Int) : read xs xs.length = (0, 0, false, 0, 8) := by rw [read_in _ _ (Nat.le_refl _), List.drop_of_length_le (Nat.le_refl _)]; rfl
theorem drop_at (xs : List Int) (k : Nat) (h : k < xs.length) : xs.drop k = xs.getD k 0 :: xs.drop (k + 1) := by
  rw [List.drop_eq_getElem_cons h]
  simp [List.getD, List.getElem?_eq_getElem h]
theorem read_at (xs : List Int) (k : Nat) (h : k < xs.length) : read xs k = readL (xs.getD k 0 :: xs.drop (k + 1)) k := by rw [read_in _ _ (by omega), drop_at xs k h]

theorem readL_short (y : Int) (r : List Int) (i : Int) (h : r.length < (following (y % 32)).toNat) : readL (y :: r) i = (0, 0, false, 0, 8) := by simp only [readL]; rw [if_pos h]
theorem readL_open (y : Int) (r : List Int) (i : Int) (h : ¬ r.length < (following (y % 32)).toNat) (h2 : 27 < y % 32) : readL (y :: r) i = opened (y / 32) (y % 32) i := by simp only [readL]; rw [if_neg h, if_pos h2]
theorem readL_low (y : Int) (r : List Int) (i : Int) (h2 : ¬ 27 < y % 32) (h3 : following (y % 32) = 0) : readL (y :: r) i = (y / 32, y % 32, false, i + 1, 0) := by
  simp only [readL]; rw [if_neg (by omega), if_neg h2, if_pos h3, h3]; simp
theorem readL_more (y : Int) (r : List Int) (i : Int) (h : ¬ r.length < (following (y % 32)).toNat) (h2 : ¬ 27 < y % 32) (h3 : ¬ following (y % 32) = 0) :
    readL (y :: r) i = (y / 32, join (r.take (following (y % 32)).toNat), false, i + 1 + following (y % 32), 0) := by
  simp only [readL]; rw [if_neg h, if_neg h2, if_neg h3]

/-- What is read fits: a right head, its place behind. -/
theorem following_cases (l : Int) : (l = 24 ∧ following l = 1) ∨ (l = 25 ∧ following l = 2) ∨ (l = 26 ∧ following l = 4) ∨ (l = 27 ∧ following l = 8) ∨ ((l < 24 ∨ 27 < l) ∧ following l = 0) := by
  unfold following; (repeat' split) <;> omega
theorem read_ok (xs : List Int) (i : Int) (hx : ∀ x ∈ xs, 0 ≤ x ∧ x ≤ 255) (m n : Int) (o : Bool) (j : Int) (h : read xs i = (m, n, o, j, 0)) :
    0 ≤ i ∧ i < j ∧ j ≤ xs.length ∧ right m n o = true ∧ 0 ≤ n ∧ n ≤ 18446744073709551615 := by
  by_cases hi : i < 0 ∨ xs.length < i
  · rw [read_out _ _ hi] at h
    simp at h
  obtain ⟨k, rfl⟩ := Int.eq_ofNat_of_zero_le (show 0 ≤ i by omega)
  by_cases hk : k = xs.length
  · rw [hk, read_end] at h
    simp at h
  have hk' : k < xs.length := by omega
  rw [read_at _ _ hk'] at h
  have hy : 0 ≤ xs.getD k 0 ∧ xs.getD k 0 ≤ 255 := hx _ (by simp [List.getD, List.getElem?_eq_getElem hk'])
  generalize xs.getD k 0 = y at *
  have hf := following_cases (y % 32)
  have hd : ∀ x ∈ xs.drop (k + 1), 0 ≤ x ∧ x ≤ 255 := fun x hx' => hx x (List.mem_of_mem_drop hx')
  have hl : (xs.drop (k + 1)).length = xs.length - (k + 1) := List.length_drop
  generalize xs.drop (k + 1) = r at *
  by_cases s0 : r.length < (following (y % 32)).toNat
  · rw [readL_short _ _ _ s0] at h
    simp at h
  by_cases s1 : 27 < y % 32
  · rw [readL_open _ _ _ s0 s1] at h
    unfold opened at h
    split at h
    · rename_i hc
      simp only [Prod.mk.injEq] at h
      obtain ⟨rfl, rfl, rfl, rfl, _⟩ := h
      refine ⟨by omega, by omega, by omega, ?_, by omega, by omega⟩
      simp [right, hc.2]
    · simp at h
  by_cases s2 : following (y % 32) = 0
  · rw [readL_low _ _ _ s1 s2] at h
    simp only [Prod.mk.injEq] at h
    obtain ⟨rfl, rfl, rfl, rfl, _⟩ := h
    refine ⟨by omega, by omega, by omega, ?_, by omega, by omega⟩
    simp [right]
    omega
  · rw [readL_more _ _ _ s0 s1 s2] at h
    simp only [Prod.mk.injEq] at h
    obtain ⟨rfl, rfl, rfl, rfl, _⟩ := h
    have hj := join_lt (r.take (following (y % 32)).toNat) (fun x hx' => hd x (List.mem_of_mem_take hx')) 8 (by simp; omega)
    simp only [show (256 : Int) ^ 8 = 18446744073709551616 from rfl] at hj
    refine ⟨by omega, by omega, by omega, ?_, by omega, by omega⟩
    simp [right]
    omega
/-- Is it written as short as may be? -/
def shortest (xs : List Int) (i : Int) : Bool := (read xs i).2.2.2.2 == 0 && (read xs i).2.2.2.1 - i == size (read xs i).1 (read xs i).2.1 (read xs i).2.2.1

theorem bytes_bound (m n : Int) (o : Bool) (hr : right m n o = true) (h0 : 0 ≤ n) : St.bts (bytes m n o) := by
  have hm := right_major m n o hr
  have hl := low_le n o h0
  intro x hx
  simp only [bytes, List.mem_cons] at hx
  rcases hx with rfl | hx
  · omega
  · exact be_bound _ _ _ hx
theorem be_less : ∀ (k : Nat) (n m : Int), 0 ≤ n → n < m → n / 2 ^ (8 * k) = m / 2 ^ (8 * k) → St.less (be n k) (be m k) = true
  | 0, n, m, _, h, e => by simp at e; omega
  | k + 1, n, m, h0, h, e => by
    have hp : (0 : Int) < 2 ^ (8 * k) := Int.pow_pos (by omega)
    have hle : n / 2 ^ (8 * k) ≤ m / 2 ^ (8 * k) := Int.ediv_le_ediv hp (by omega)
    have e1 : ∀ z : Int, z / 2 ^ (8 * (k + 1)) = z / 2 ^ (8 * k) / 256 := by
      intro z
      rw [show (2 : Int) ^ (8 * (k + 1)) = 2 ^ (8 * k) * 256 from by rw [show 8 * (k + 1) = 8 * k + 8 from rfl, Int.pow_add]; rfl, Int.ediv_ediv_of_nonneg (by omega)]
    rw [e1, e1] at e
    have ih := be_less k n m h0 h
    simp only [be, St.less]
    generalize n / 2 ^ (8 * k) = a at *
    generalize m / 2 ^ (8 * k) = b at *
    by_cases hab : a = b
    · subst hab
      simp [ih rfl]
    · have : a % 256 < b % 256 := by omega
      simp [this]
theorem low_mono (n m : Int) (h0 : 0 ≤ n) (h : n < m) (h1 : m ≤ 18446744073709551615) :
    lowN n < lowN m ∧ following (lowN n) ≤ following (lowN m) ∨
    lowN n = lowN m ∧ n / 2 ^ (8 * (following (lowN n)).toNat) = m / 2 ^ (8 * (following (lowN n)).toNat) := by
  have c := following_cases (lowN n)
  have d := following_cases (lowN m)
  have hn : (lowN n = n ∧ n < 24) ∨ (lowN n = 24 ∧ n < 256 ∧ 24 ≤ n) ∨ (lowN n = 25 ∧ n < 65536 ∧ 256 ≤ n) ∨ (lowN n = 26 ∧ n < 4294967296 ∧ 65536 ≤ n) ∨ (lowN n = 27 ∧ 4294967296 ≤ n) := by
    unfold lowN; (repeat' split) <;> omega
  have hm : (lowN m = m ∧ m < 24) ∨ (lowN m = 24 ∧ m < 256 ∧ 24 ≤ m) ∨ (lowN m = 25 ∧ m < 65536 ∧ 256 ≤ m) ∨ (lowN m = 26 ∧ m < 4294967296 ∧ 65536 ≤ m) ∨ (lowN m = 27 ∧ 4294967296 ≤ m) := by
    unfold lowN; (repeat' split) <;> omega
  by_cases hlt : lowN n < lowN m
  · exact .inl ⟨hlt, by omega⟩
  · refine .inr ⟨by omega, ?_⟩
    have hc : (following (lowN n) = 1 ∧ n < 256 ∧ m < 256) ∨ (following (lowN n) = 2 ∧ n < 65536 ∧ m < 65536) ∨ (following (lowN n) = 4 ∧ n < 4294967296 ∧ m < 4294967296) ∨ following (lowN n) = 8 := by omega
    rcases hc with ⟨e, h2, h3⟩ | ⟨e, h2, h3⟩ | ⟨e, h2, h3⟩ | e
    · rw [e]; show n / 256 = m / 256; omega
    · rw [e]; show n / 65536 = m / 65536; omega
    · rw [e]; show n / 4294967296 = m / 4294967296; omega
    · rw [e]; show n / 18446744073709551616 = m / 18446744073709551616; omega
theorem bytes_less (M n m : Int) (h0 : 0 ≤ n) (h : n < m) (h1 : m ≤ 18446744073709551615) :
    St.less (bytes M n false) (bytes M m false) = true ∧ (bytes M n false).length ≤ (bytes M m false).length := by
  have hl := low_mono n m h0 h h1
  have f1 := following_le (lowN n)
  have f2 := following_le (lowN m)
  simp only [bytes, low, Bool.false_eq_true, if_false, List.length_cons, be_length]
  rcases hl with ⟨a, b⟩ | ⟨a, b⟩
  · refine ⟨?_, by omega⟩
    simp only [St.less]
    have : M * 32 + lowN n < M * 32 + lowN m := by omega
    simp [this]
  · have hb := be_less _ n m h0 h b
    rw [← a]
    refine ⟨?_, by omega⟩
    simp [St.less, hb]

theorem be_add : ∀ (k : Nat) (n c : Int), be (n + c * 2 ^ (8 * k)) k = be n k
  | 0, _, _ => rfl
  | k + 1, n, c => by
    have hp : (0 : Int) < 2 ^ (8 * k) := Int.pow_pos (by omega)
    have e1 : n + c * 2 ^ (8 * (k + 1)) = n + (c * 256) * 2 ^ (8 * k) := by
      rw [show (2 : Int) ^ (8 * (k + 1)) = 256 * 2 ^ (8 * k) from by rw [show 8 * (k + 1) = 8 + 8 * k by omega, Int.pow_add]; rfl, Int.mul_assoc]
    rw [e1]
    simp only [be]
    rw [be_add k n (c * 256), Int.add_mul_ediv_right _ _ (by omega)]
    congr 1
    omega
theorem pow_256 (k : Nat) : (256 : Int) ^ k = 2 ^ (8 * k) := by rw [Int.pow_mul]; rfl
theorem join_cons (b : Int) (l : List Int) (a : Int) : (b :: l).foldl (fun n b => n * 256 + b) a = l.foldl (fun n b => n * 256 + b) (a * 256 + b) := rfl
theorem join_acc : ∀ (l : List Int) (a : Int), l.foldl (fun n b => n * 256 + b) a = a * 256 ^ l.length + join l
  | [], a => by simp [join]
  | b :: l, a => by
    rw [join_cons, join_acc l, show join (b :: l) = l.foldl (fun n b => n * 256 + b) b from by simp [join], join_acc l b, List.length_cons, Int.pow_succ, Int.add_mul, Int.mul_assoc, Int.mul_comm 256, Int.add_assoc]
theorem be_join : ∀ (l : List Int), St.bts l → be (join l) l.length = l
  | [], _ => rfl
  | b :: l, h => by
    have hb := h b (by simp)
    have hl : St.bts l := fun x hx => h x (by simp [hx])
    have hj := join_lt l hl l.length (Nat.le_refl _)
    have e : join (b :: l) = join l + b * 2 ^ (8 * l.length) := by
      rw [show join (b :: l) = l.foldl (fun n b => n * 256 + b) b from by simp [join], join_acc l b, pow_256]; omega
    have hp : (0 : Int) < 2 ^ (8 * l.length) := Int.pow_pos (by omega)
    rw [pow_256] at hj
    rw [e, List.length_cons]
    simp only [be]
    rw [be_add, be_join l hl, Int.add_mul_ediv_right _ _ (by omega), Int.ediv_eq_zero_of_lt hj.1 hj.2]
    congr 1
    omega
theorem join_be : ∀ (k : Nat) (n : Int), 0 ≤ n → join (be n k) = n % 2 ^ (8 * k)
  | 0, n, _ => by simp [be, join]
  | k + 1, n, h => by
    have hp : (0 : Int) < 2 ^ (8 * k) := Int.pow_pos (by omega)
    simp only [be]
    rw [show ∀ b l, join (b :: l) = l.foldl (fun n b => n * 256 + b) b from fun b l => by simp [join], join_acc, be_length, join_be k n h, pow_256]
    rw [show (2 : Int) ^ (8 * (k + 1)) = 2 ^ (8 * k) * 256 from by rw [show 8 * (k + 1) = 8 * k + 8 from rfl, Int.pow_add]; rfl]
    generalize hP : (2 : Int) ^ (8 * k) = p at *
    have hq := Int.emod_add_mul_ediv n p
    have r0 := Int.emod_nonneg n (show p ≠ 0 by omega)
    have r1 := Int.emod_lt_of_pos n hp
    generalize n / p = q at *
    generalize n % p = r at *
    have d0 := Int.emod_nonneg q (show (256 : Int) ≠ 0 by omega)
    have d1 := Int.emod_lt_of_pos q (show (0 : Int) < 256 by omega)
    have hd := Int.emod_add_mul_ediv q 256
    generalize q / 256 = s at *
    generalize q % 256 = d at *
    subst hd
    subst hq
    have e2 : r + p * (d + 256 * s) = (d * p + r) + p * 256 * s := by
      rw [Int.mul_add, Int.mul_comm p d, Int.mul_assoc]; omega
    have b1 : 0 ≤ d * p + r := Int.add_nonneg (Int.mul_nonneg d0 (by omega)) r0
    have b2 : d * p + r < p * 256 := by
      have : d * p ≤ 255 * p := Int.mul_le_mul_of_nonneg_right (by omega) (by omega)
      omega
    rw [e2, Int.add_mul_emod_self_left, Int.emod_eq_of_lt b1 b2]
/-- The first byte and what has been written behind it, so many rounds in. -/
def part (f n : Int) (more i : Nat) : List Int := f :: (List.replicate (more - i) 0 ++ be n i)
theorem part_length (f n : Int) (more i : Nat) (h : i ≤ more) : (part f n more i).length = 1 + more := by simp [part, be_length]; omega
theorem part_set (f n : Int) (more i : Nat) (h : i < more) : (part f n more i).set (more - i) (n / 2 ^ (8 * i) % 256) = part f n more (i + 1) := by
  unfold part
  obtain ⟨d, rfl⟩ : ∃ d, more = i + 1 + d := ⟨more - (i + 1), by omega⟩
  have e1 : i + 1 + d - i = d + 1 := by omega
  have e2 : i + 1 + d - (i + 1) = d := by omega
  rw [e1, e2, List.set_cons_succ]
  congr 1
  rw [List.replicate_succ', List.append_assoc, List.set_append_right _ _ (by simp)]
  simp [be]
theorem bytes_part (m n : Int) (o : Bool) : bytes m n o = part (m * 32 + low n o) n (following (low n o)).toNat (following (low n o)).toNat := by simp [bytes, part]
end Go.Proofs.YtoieadbifhealaaDoor.HeadP
