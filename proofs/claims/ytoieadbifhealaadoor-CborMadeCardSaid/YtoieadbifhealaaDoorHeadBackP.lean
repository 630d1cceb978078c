/- Heads go there and back: the plain mathematics. -/
import Derived.Test.YtoieadbifhealaaDoorHeadPure
namespace Go.Proofs.YtoieadbifhealaaDoor.HeadP

theorem size_bytes (m n : Int) (o : Bool) (h : right m n o = true) : size m n o = (bytes m n o).length := by
  have hf := following_le (low n o)
  unfold size bytes
  rw [if_pos h, List.length_cons, be_length]
  omega
theorem low_right (m n : Int) (o : Bool) (h : right m n o = true) (h0 : 0 ≤ n) (h1 : n ≤ 18446744073709551615) :
    (o = true ∧ n = 0 ∧ mayOpen m = true ∧ low n o = 31) ∨ (o = false ∧ low n o = n ∧ n < 24) ∨ (o = false ∧ 24 ≤ low n o ∧ low n o ≤ 27 ∧ n < 2 ^ (8 * (following (low n o)).toNat)) := by
  unfold right at h
  cases o
  · have e : low n false = lowN n := rfl
    by_cases a : n < 24
    · exact .inr (.inl ⟨rfl, by rw [e]; unfold lowN; rw [if_pos a], a⟩)
    · refine .inr (.inr ⟨rfl, ?_⟩)
      rw [e]
      unfold lowN
      rw [if_neg a]
      split
      · exact ⟨by omega, by omega, by simp [following]; omega⟩
      split
      · exact ⟨by omega, by omega, by simp [following]; omega⟩
      split
      · exact ⟨by omega, by omega, by simp [following]; omega⟩
      · exact ⟨by omega, by omega, by simp [following]; omega⟩
  · simp only [if_true, Bool.and_eq_true, beq_iff_eq] at h
    exact .inl ⟨rfl, h.1, h.2, rfl⟩

theorem read_back (m n : Int) (o : Bool) (ahead behind : List Int) (h : right m n o = true) (h0 : 0 ≤ n) (h1 : n ≤ 18446744073709551615) :
    read (ahead ++ bytes m n o ++ behind) ahead.length = (m, n, o, (ahead.length : Int) + ((bytes m n o).length : Int), 0) := by
  have hm := right_major m n o h
  have hl := low_le n o h0
  have hf := following_le (low n o)
  rw [read_in _ _ (by simp)]
  rw [show (ahead ++ bytes m n o ++ behind).drop ahead.length = (m * 32 + low n o) :: (be n (following (low n o)).toNat ++ behind) from by simp [bytes]]
  have e1 : (m * 32 + low n o) % 32 = low n o := by omega
  have e2 : (m * 32 + low n o) / 32 = m := by omega
  have hs : ¬ (be n (following (low n o)).toNat ++ behind).length < (following (low n o)).toNat := by simp [be_length]; omega
  have hlen : ((bytes m n o).length : Int) = 1 + following (low n o) := by simp only [bytes, List.length_cons, be_length]; omega
  rw [hlen]
  rcases low_right m n o h h0 h1 with ⟨rfl, rfl, ho, hlo⟩ | ⟨rfl, hlo, hn⟩ | ⟨rfl, hlo1, hlo2, hn⟩
  · rw [readL_open _ _ _ (by rw [e1]; exact hs) (by omega), e1, e2, hlo]
    simp [opened, ho, following]
  · have hz : following (low n false) = 0 := by rcases following_cases (low n false) with h | h | h | h | h <;> omega
    rw [readL_low _ _ _ (by omega) (by rw [e1]; exact hz), e1, e2, hlo]
    rw [hlo] at hz
    rw [hz]
    simp
  · have hz : ¬ following (low n false) = 0 := by rcases following_cases (low n false) with h | h | h | h | h <;> omega
    rw [readL_more _ _ _ (by rw [e1]; exact hs) (by omega) (by rw [e1]; exact hz), e1, e2]
    have ht : (be n (following (low n false)).toNat ++ behind).take (following (low n false)).toNat = be n (following (low n false)).toNat := List.take_left' (be_length _ _)
    rw [ht, join_be _ _ h0, Int.emod_eq_of_lt h0 hn]
    simp only [Prod.mk.injEq, true_and, and_true]
    omega

theorem shortest_back (m n : Int) (o : Bool) (ahead behind : List Int) (h : right m n o = true) (h0 : 0 ≤ n) (h1 : n ≤ 18446744073709551615) :
    shortest (ahead ++ bytes m n o ++ behind) ahead.length = true := by
  unfold shortest
  rw [read_back m n o ahead behind h h0 h1]
  simp only [size_bytes m n o h, BEq.rfl, Bool.true_and, beq_iff_eq]
  omega

theorem take_cons (y : Int) (r : List Int) (k : Nat) : (y :: r).take (k + 1) = y :: r.take k := rfl

theorem follow_le (k : Nat) (J : Int) (hk : k = 1 ∨ k = 2 ∨ k = 4 ∨ k = 8) (h : J < 2 ^ (8 * k)) : following (lowN J) ≤ k := by
  have hc : (k = 1 ∧ J < 256) ∨ (k = 2 ∧ J < 65536) ∨ (k = 4 ∧ J < 4294967296) ∨ k = 8 := by
    rcases hk with rfl | rfl | rfl | rfl
    · exact .inl ⟨rfl, h⟩
    · exact .inr (.inl ⟨rfl, h⟩)
    · exact .inr (.inr (.inl ⟨rfl, h⟩))
    · exact .inr (.inr (.inr rfl))
  have hcJ := following_cases (lowN J)
  have hlJ : (lowN J = J ∧ J < 24) ∨ (lowN J = 24 ∧ J < 256 ∧ 24 ≤ J) ∨ (lowN J = 25 ∧ J < 65536 ∧ 256 ≤ J) ∨ (lowN J = 26 ∧ J < 4294967296 ∧ 65536 ≤ J) ∨ (lowN J = 27 ∧ 4294967296 ≤ J) := by
    unfold lowN; (repeat' split) <;> omega
  omega
/-- Whatever is read, written again, is not longer; it is its own bytes just if it was written as short as may be. -/
theorem read_again (xs : List Int) (hx : St.bts xs) (m n : Int) (o : Bool) (j : Int) (h : read xs 0 = (m, n, o, j, 0)) :
    shortest xs 0 = decide (bytes m n o = xs.take j.toNat) ∧ ((bytes m n o).length : Int) ≤ j := by
  have hok := read_ok xs 0 hx m n o j h
  have hsh : shortest xs 0 = decide (((bytes m n o).length : Int) = j) := by
    unfold shortest
    rw [h]
    simp only [size_bytes m n o hok.2.2.2.1, BEq.rfl, Bool.true_and, Int.sub_zero]
    rw [Bool.eq_iff_iff]; simp; omega
  have hlen : ((bytes m n o).length : Int) = 1 + following (low n o) := by
    have hf := following_le (low n o)
    simp only [bytes, List.length_cons, be_length]; omega
  have key : ((bytes m n o).length : Int) ≤ j ∧ (((bytes m n o).length : Int) = j → bytes m n o = xs.take j.toNat) := by
    match xs, hx, h, hok with
    | [], _, h, hok => have := hok.2.2.1; have := hok.2.1; simp at *; omega
    | y :: r, hx, h, hok =>
      have hy := hx y (by simp)
      have hr : St.bts r := fun x hx' => hx x (by simp [hx'])
      have h' : readL (y :: r) 0 = (m, n, o, j, 0) := by rw [← h]; exact (read_in (y :: r) 0 (by simp)).symm
      have hf := following_cases (y % 32)
      by_cases s0 : r.length < (following (y % 32)).toNat
      · rw [readL_short _ _ _ s0] at h'
        simp at h'
      by_cases s1 : 27 < y % 32
      · rw [readL_open _ _ _ s0 s1] at h'
        unfold opened at h'
        split at h'
        · rename_i hc
          simp only [Prod.mk.injEq] at h'
          obtain ⟨rfl, rfl, rfl, rfl, _⟩ := h'
          have hb : bytes (y / 32) 0 true = [y] := by
            simp [bytes, low, following, be]
            omega
          rw [hb]
          exact ⟨by simp, fun _ => by simp⟩
        · simp at h'
      by_cases s2 : following (y % 32) = 0
      · rw [readL_low _ _ _ s1 s2] at h'
        simp only [Prod.mk.injEq] at h'
        obtain ⟨rfl, rfl, rfl, rfl, _⟩ := h'
        have hlo : low (y % 32) false = y % 32 := by simp only [low, Bool.false_eq_true, if_false, lowN]; rw [if_pos (by omega)]
        have hb : bytes (y / 32) (y % 32) false = [y] := by
          simp only [bytes, hlo, s2]
          simp [be]
          omega
        rw [hb]
        exact ⟨by simp, fun _ => by simp⟩
      · rw [readL_more _ _ _ s0 s1 s2] at h'
        simp only [Prod.mk.injEq] at h'
        obtain ⟨rfl, rfl, rfl, rfl, _⟩ := h'
        generalize hF : following (y % 32) = F at *
        obtain ⟨k, rfl⟩ := Int.eq_ofNat_of_zero_le (show 0 ≤ F by omega)
        simp only [Int.toNat_natCast] at *
        have htl : (r.take k).length = k := by simp; omega
        have htb : St.bts (r.take k) := fun x hx' => hr x (List.mem_of_mem_take hx')
        have hj := join_lt (r.take k) htb k (by omega)
        rw [pow_256] at hj
        have hfn := follow_le k (join (r.take k)) (by omega) hj.2
        have hln : ((bytes (y / 32) (join (r.take k)) false).length : Int) = 1 + following (lowN (join (r.take k))) := by
          have := following_le (lowN (join (r.take k)))
          simp only [bytes, low, Bool.false_eq_true, if_false, List.length_cons, be_length]; omega
        refine ⟨by rw [hln]; omega, fun he => ?_⟩
        have hfe : following (lowN (join (r.take k))) = k := by omega
        have hle : lowN (join (r.take k)) = y % 32 := by
          have hcJ := following_cases (lowN (join (r.take k)))
          omega
        have hb := be_join (r.take k) htb
        rw [htl] at hb
        simp only [bytes, low, Bool.false_eq_true, if_false, hfe, Int.toNat_natCast, hb]
        rw [hle, show ((0 : Int) + 1 + (k : Int)).toNat = k + 1 by omega, take_cons]
        congr 1
        omega
  refine ⟨?_, key.1⟩
  rw [hsh, decide_eq_decide]
  constructor
  · exact key.2
  · intro he
    have hl := congrArg List.length he
    rw [List.length_take] at hl
    have := hok.2.1
    have := hok.2.2.1
    omega
theorem opened_shift (m l i : Int) : opened m l i = ((opened m l 0).1, (opened m l 0).2.1, (opened m l 0).2.2.1, (if (opened m l 0).2.2.2.2 = 0 then (opened m l 0).2.2.2.1 + i else 0), (opened m l 0).2.2.2.2) := by
  unfold opened
  split <;> simp; omega
theorem readL_shift (l : List Int) (i : Int) : readL l i = ((readL l 0).1, (readL l 0).2.1, (readL l 0).2.2.1, (if (readL l 0).2.2.2.2 = 0 then (readL l 0).2.2.2.1 + i else 0), (readL l 0).2.2.2.2) := by
  match l with
  | [] => simp [readL]
  | y :: r =>
    by_cases s0 : r.length < (following (y % 32)).toNat
    · rw [readL_short _ _ _ s0, readL_short _ _ _ s0]; simp
    by_cases s1 : 27 < y % 32
    · rw [readL_open _ _ _ s0 s1, readL_open _ _ _ s0 s1]; exact opened_shift _ _ _
    by_cases s2 : following (y % 32) = 0
    · rw [readL_low _ _ _ s1 s2, readL_low _ _ _ s1 s2]; simp; omega
    · rw [readL_more _ _ _ s0 s1 s2, readL_more _ _ _ s0 s1 s2]; simp; omega
theorem read_drop (xs : List Int) (k : Nat) (hk : k ≤ xs.length) (m n : Int) (o : Bool) (j : Int) (h : read xs k = (m, n, o, j, 0)) : read (xs.drop k) 0 = (m, n, o, j - k, 0) := by
  rw [read_in _ _ hk, readL_shift] at h
  have h0 := read_in (xs.drop k) 0 (by omega)
  simp only [List.drop_zero] at h0
  rw [show ((0 : Nat) : Int) = 0 from rfl] at h0
  rw [h0]
  generalize readL (xs.drop k) 0 = t at *
  obtain ⟨a, b, c, d, e⟩ := t
  simp only [Prod.mk.injEq] at h
  obtain ⟨rfl, rfl, rfl, hd, rfl⟩ := h
  simp at hd
  simp
  omega
/-- The same at any place. -/
theorem read_again_at (xs : List Int) (hx : St.bts xs) (k : Nat) (m n : Int) (o : Bool) (j : Nat) (h : read xs k = (m, n, o, (j : Int), 0)) :
    shortest xs k = decide (bytes m n o = (xs.drop k).take (j - k)) := by
  have hok := read_ok xs k hx m n o j h
  have hd := read_drop xs k (by omega) m n o j h
  have ha := (read_again (xs.drop k) (fun x hx' => hx x (List.mem_of_mem_drop hx')) m n o _ hd).1
  rw [show ((j : Int) - (k : Int)).toNat = j - k by omega] at ha
  rw [← ha]
  unfold shortest
  rw [h, hd]
  simp
end Go.Proofs.YtoieadbifhealaaDoor.HeadP
